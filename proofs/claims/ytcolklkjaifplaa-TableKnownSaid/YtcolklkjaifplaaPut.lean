/- Put of numbers that stand in a list literal, as a call from any world. -/
import Derived.Test.YtcolklkjaifplaaOctZ
namespace Go.Proofs.Ytcolklkjaifplaa.Oct
open Go.RowKit
set_option linter.unusedVariables false

theorem PairOf.mono {l : List Int} {e : Int} {w wa : World} {en : Ending} {w' : World} (h : PairOf l e wa en w') (hb : Below w.heap.size w wa) : PairOf l e w en w' := by
  obtain ⟨A, n, c, he, ho, hb'⟩ := h
  exact ⟨A, n, c, he, ho.lower hb.size, hb.trans (hb'.mono hb.size)⟩
end Go.Proofs.Ytcolklkjaifplaa.Oct
