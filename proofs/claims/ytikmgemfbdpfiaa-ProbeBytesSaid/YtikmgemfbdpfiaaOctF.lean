/- Contracts of layer 1: Text and Seal, and the document's. -/
import Derived.Test.YtikmgemfbdpfiaaOctE
namespace Go.Proofs.Ytikmgemfbdpfiaa.Oct
open Go.RowKit
set_option linter.unusedVariables false

def textP (l s : List Int) : List Int × Int := if 65535 < s.length then ([], 5) else (l ++ dg 2 s.length ++ s, 0)
theorem textP_by (l s : List Int) (h : By l) (hs : By s) : By (textP l s).1 := by
  unfold textP
  split
  · exact By.nil
  · exact (h.append (dg_by _ _)).append hs

theorem putP_two (l : List Int) (x : Int) (h0 : 0 ≤ x) (h : x < 65536) : putP l 2 [x] = (l ++ dg 2 x, 0) := by
  unfold putP
  rw [if_pos (by omega)]
  have : fitsP x 2 = true := by unfold fitsP; exact decide_eq_true ⟨h0, by simpa using h⟩
  simp [this]

end Go.Proofs.Ytikmgemfbdpfiaa.Oct
