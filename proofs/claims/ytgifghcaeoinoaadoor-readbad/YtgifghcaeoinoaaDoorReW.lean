/-
  What the reader answers at seventeen sources that are none.
-/
import Derived.Test.YtgifghcaeoinoaaDoorReU
namespace Go.Proofs.YtgifghcaeoinoaaDoor
open Go.RowKit
set_option linter.unusedSimpArgs false
set_option linter.unusedVariables false

theorem bad0 : readM 60 ⟨#[120]⟩ = some (.inl (0, 4)) := by kernel_rfl
theorem bad1 : readM 60 ⟨#[102, 117, 110, 99]⟩ = some (.inl (4, 5)) := by kernel_rfl
theorem bad2 : readM 60 ⟨#[102, 117, 110, 99, 32, 109, 97, 105, 110]⟩ = some (.inl (9, 5)) := by kernel_rfl
theorem bad3 : readM 60 ⟨#[102, 117, 110, 99, 32, 109, 97, 105, 110, 40, 32, 123, 32, 125]⟩ = some (.inl (11, 4)) := by kernel_rfl
theorem bad4 : readM 60 ⟨#[102, 117, 110, 99, 32, 109, 97, 105, 110, 40, 41, 32, 123, 32, 120, 32, 125]⟩ = some (.inl (14, 4)) := by kernel_rfl
theorem bad5 : readM 60 ⟨#[102, 117, 110, 99, 32, 109, 97, 105, 110, 40, 41, 32, 123, 32, 105, 102, 32, 125]⟩ = some (.inl (17, 4)) := by kernel_rfl
theorem bad6 : readM 60 ⟨#[102, 117, 110, 99, 32, 109, 97, 105, 110, 40, 41, 32, 123, 32, 112, 114, 105, 110, 116, 40, 41, 32, 125]⟩ = some (.inl (19, 10)) := by kernel_rfl
theorem bad7 : readM 60 ⟨#[102, 117, 110, 99, 32, 109, 97, 105, 110, 40, 41, 32, 123, 32, 112, 114, 105, 110, 116, 40, 49, 44, 32, 50, 41, 32, 125]⟩ = some (.inl (19, 10)) := by kernel_rfl
theorem bad8 : readM 60 ⟨#[102, 117, 110, 99, 32, 109, 97, 105, 110, 40, 41, 32, 123, 32, 120, 32, 58, 61, 32, 108, 101, 110, 40, 41, 32, 125]⟩ = some (.inl (19, 10)) := by kernel_rfl
theorem bad9 : readM 60 ⟨#[102, 117, 110, 99, 32, 109, 97, 105, 110, 40, 41, 32, 123, 32, 120, 32, 58, 61, 32, 48, 49, 32, 125]⟩ = some (.inl (19, 4)) := by kernel_rfl
theorem bad10 : readM 60 ⟨#[102, 117, 110, 99, 32, 109, 97, 105, 110, 40, 41, 32, 123, 32, 120, 32, 58, 61, 32, 49, 48, 57, 57, 53, 49, 49, 54, 50, 55, 55, 55, 55, 32, 125]⟩ = some (.inl (19, 2)) := by kernel_rfl
theorem bad11 : readM 60 ⟨#[102, 117, 110, 99, 32, 109, 97, 105, 110, 40, 41, 32, 123, 32, 120, 32, 58, 61, 32, 34, 97, 32, 125]⟩ = some (.inl (19, 5)) := by kernel_rfl
theorem bad12 : readM 60 ⟨#[102, 117, 110, 99, 32, 109, 97, 105, 110, 40, 41, 32, 123, 32, 120, 32, 61, 32, 63, 32, 125]⟩ = some (.inl (18, 4)) := by kernel_rfl
theorem bad13 : readM 60 ⟨#[102, 117, 110, 99, 32, 109, 97, 105, 110, 40, 97, 44, 32, 98, 41, 32, 123, 32, 125]⟩ = some (.inl (11, 4)) := by kernel_rfl
theorem bad14 : readM 60 ⟨#[102, 117, 110, 99, 32, 109, 97, 105, 110, 40, 41, 32, 123, 32, 102, 111, 114, 32, 120, 44, 32, 121, 32, 114, 97, 110, 103, 101, 32, 51, 32, 123, 32, 125, 32, 125]⟩ = some (.inl (23, 4)) := by kernel_rfl
theorem bad15 : readM 60 ⟨#[102, 117, 110, 99, 32, 109, 97, 105, 110, 40, 41, 32, 123, 32, 97, 98, 99, 100, 101, 102, 103, 104, 105, 106, 107, 108, 109, 32, 58, 61, 32, 49, 32, 125]⟩ = some (.inl (14, 1)) := by kernel_rfl
theorem bad16 : readM 60 ⟨#[102, 117, 110, 99, 32, 109, 97, 105, 110, 40, 41, 32, 123, 32, 105, 102, 32, 58, 61, 32, 49, 32, 125]⟩ = some (.inl (17, 4)) := by kernel_rfl

end Go.Proofs.YtgifghcaeoinoaaDoor
