/- Contracts of layer 11 (lane): copies of frames; Put, Double, All, New; rows of frames. -/
import Derived.Test.YtdhidgcjpeafnaaLanC
namespace Go.Proofs.Ytdhidgcjpeafnaa.Oct
open Go.RowKit
set_option linter.unusedVariables false
set_option linter.unusedSimpArgs false
section
variable {w : World} {l c room : Nat} {fs a b : List FrV} {f : FrV}
/-- What Put answers. -/
def putE (n len room : Nat) : Int := if 512 < n then 5 else if room ≤ len then 7 else 0
/-- What Double answers. -/
def dblE (len room : Nat) (i : Int) : Int := if 0 ≤ i ∧ i < len then (if room ≤ len then 7 else 0) else 9
end
end Go.Proofs.Ytdhidgcjpeafnaa.Oct
