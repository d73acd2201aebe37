/- Laws of a whole struct's load and store, by its block: one step each. -/
import Derived.Test.YtlambnlehomkdaaOrdV
import Derived.Laws.Rows
namespace Go.Proofs.Ytlambnlehomkdaa.Oct
open Go.RowKit
set_option linter.unusedVariables false

theorem agg_rule : Agg 36 13 := ⟨⟨_, Try.underlying36, rfl⟩, by kernel_rfl⟩
theorem agg_mask : Agg 33 8 := ⟨⟨_, Try.underlying33, rfl⟩, by kernel_rfl⟩
theorem agg_out : Agg 49 4 := ⟨⟨_, Try.underlying49, rfl⟩, by kernel_rfl⟩
theorem agg_set : Agg 47 3 := ⟨⟨_, Try.underlying47, rfl⟩, by kernel_rfl⟩
theorem agg_header : Agg 31 3 := ⟨⟨_, Try.underlying31, rfl⟩, by kernel_rfl⟩
end Go.Proofs.Ytlambnlehomkdaa.Oct
