/- Contracts of layer 8: SameSent, Same, works. -/
import Derived.Test.YtcolklkjaifplaaRulE
namespace Go.Proofs.Ytcolklkjaifplaa.Oct
open Go.RowKit
set_option linter.unusedVariables false
set_option linter.unusedSimpArgs false

set_option maxRecDepth 100000 in
set_option maxHeartbeats 1600000 in
theorem list_ext' {os os2 : List OutV} (hl : os.length = os2.length) (h : ∀ j, j < os.length → os[j]? = os2[j]?) : os = os2 := by
  apply List.ext_getElem?
  intro i
  by_cases hi : i < os.length
  · exact h i hi
  · rw [List.getElem?_eq_none (by omega), List.getElem?_eq_none (by omega)]
end Go.Proofs.Ytcolklkjaifplaa.Oct
