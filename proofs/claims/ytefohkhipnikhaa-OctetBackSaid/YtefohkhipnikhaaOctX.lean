/- OctetBack of whatever rows come in. -/
import Derived.Test.YtefohkhipnikhaaOctU
import Derived.Test.YtefohkhipnikhaaOctV
namespace Go.Proofs.Ytefohkhipnikhaa.Oct
open Go.RowKit
set_option linter.unusedVariables false
theorem OctetBack_walk (A0 : Option Addr) (n0 c0 : Nat) (z0 : List Int) (A1 : Option Addr) (n1 c1 : Nat) (z1 : List Int) (A2 : Option Addr) (n2 c2 : Nat) (z2 : List Int) (w : World) (w0 : Frame.IsRow .i64 w A0 n0 c0 z0) (re0 : c0 * 8 ≤ 140737488351232) (w1 : Frame.IsRow .u8 w A1 n1 c1 z1) (re1 : c1 * 1 ≤ 140737488351232) (w2 : Frame.IsRow .u8 w A2 n2 c2 z2) (re2 : c2 * 1 ≤ 140737488351232) :
    Calls Try.prog 6 #[.slice A0 n0 c0, .slice A1 n1 c1, .slice A2 n2 c2] w fun e w' => e = .returned (.bool true) ∧ Below w.heap.size w w' := by
  have h0 := Rd.of_row w0
  have h1 := Rd.of_row w1
  have h2 := Rd.of_row w2
  have b1 := By.of_row w1
  have b2 := By.of_row w2
  have le1 := h1.le
  by_cases hm : n1 ≤ 400
  · exact back_lo h0 h1 b1 h2 b2 (by omega) (by omega) (by omega)
  · exact back_hi h0 (h1.pre 400 (by omega)) (b1.take _) h2 b2 (by omega) (by omega) (by omega)
end Go.Proofs.Ytefohkhipnikhaa.Oct
