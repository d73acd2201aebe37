/- Laws of a whole struct's load and store, by its block: one step each. -/
import Derived.Test.YtcolklkjaifplaaOrdV
import Derived.Laws.Rows
namespace Go.Proofs.Ytcolklkjaifplaa.Oct
open Go.RowKit
set_option linter.unusedVariables false

theorem agg_rule : Agg 31 13 := ⟨⟨_, Try.underlying31, rfl⟩, by kernel_rfl⟩
theorem agg_mask : Agg 28 8 := ⟨⟨_, Try.underlying28, rfl⟩, by kernel_rfl⟩
theorem agg_out : Agg 93 4 := ⟨⟨_, Try.underlying93, rfl⟩, by kernel_rfl⟩
theorem agg_set : Agg 91 3 := ⟨⟨_, Try.underlying91, rfl⟩, by kernel_rfl⟩
theorem agg_header : Agg 26 3 := ⟨⟨_, Try.underlying26, rfl⟩, by kernel_rfl⟩
end Go.Proofs.Ytcolklkjaifplaa.Oct
