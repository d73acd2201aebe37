/- An order as a parameter: its numbers, its rule, its outputs, its probe. -/
import Derived.Test.YteambkehdbffmaaGreatOrdV
import Derived.Test.YteambkehdbffmaaGreatMskX
import Derived.Test.YteambkehdbffmaaGreatPrbX
import Derived.Deep.Slices
import Derived.SizedLaws
namespace Go.Proofs.YteambkehdbffmaaGreat.Frame
open Go.ChangeShapes Go.WideShapes Go.ChangeAt Go.RowKit
set_option linter.unusedVariables false

theorem five {cs : List Value} (h : IsFlat [.i64, .i64, .i64, .i64, .i64] cs) : ∃ f p t q n : Int, cs = [.int .i64 f, .int .i64 p, .int .i64 t, .int .i64 q, .int .i64 n] := by
  obtain ⟨zs, l, e, _⟩ := h
  match zs, l with
  | [f, p, t, q, n], _ => exact ⟨f, p, t, q, n, e⟩

end Go.Proofs.YteambkehdbffmaaGreat.Frame
