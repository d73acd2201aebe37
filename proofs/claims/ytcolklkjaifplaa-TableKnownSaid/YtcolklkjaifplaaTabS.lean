/- Contracts of layer 9's statements: made. -/
import Derived.Test.YtcolklkjaifplaaTabQ
import Derived.Test.YtcolklkjaifplaaBring
import Derived.LoopN
import Derived.StillTailTactics
namespace Go.Proofs.Ytcolklkjaifplaa.Oct
open Go.RowKit
set_option linter.unusedVariables false
set_option linter.unusedSimpArgs false

/-- The mask of a rule that may be. -/
def madeM (x : MaskV) : MaskV := ⟨Ser.bringP x.v 3, Ser.bringP x.m 6 - 1, bits .and .u8 x.b0 3, bits .and .u8 x.b1 3, bits .and .u8 x.b2 3, bits .and .u8 x.i0 (bits .and .u8 x.b0 3), bits .and .u8 x.i1 (bits .and .u8 x.b1 3), bits .and .u8 x.i2 (bits .and .u8 x.b2 3)⟩
/-- A rule that may be, out of any. -/
def madeR (r : RuleV) : RuleV := if r.k.tmod 4 = 0 then ctlO (Ser.bringP r.to 7) (Ser.bringP r.po 5) else datO (Ser.bringP r.pr 4) (madeM r.x) (Ser.bringP r.po 5)
end Go.Proofs.Ytcolklkjaifplaa.Oct
