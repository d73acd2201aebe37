/- Contracts of the leaf functions of layer 1: CopyBytes, EqBytes, isSize, fits, copyOf, digits, number, doubled, Sum, and the document's Sum. Contracts of layer 1's loops: digits, number, doubled, Sum, and the document's Sum. Contracts of layer 1: the document's Sum; Put, and the document's Put. -/
import Derived.Test.YtomjnpjabfnlbaaOctW
import Derived.BigQuiet
import Derived.Deep.QuietTactic
namespace Go.Proofs.Ytomjnpjabfnlbaa.Oct
open Go.RowKit
set_option linter.unusedVariables false

theorem ret_int {k : IntKind} {a b : Int} (h : a = b) : Ending.returned (.int k a) = .returned (.int k b) := by rw [h]
theorem ret_bool {a b : Bool} (h : a = b) : Ending.returned (.bool a) = .returned (.bool b) := by rw [h]

theorem eqBytes_any {w : World} {B1 B2 : Nat} {A1 A2 : Option Addr} {n1 c1 n2 c2 : Nat} {l1 l2 : List Int} (h1 : Rd .u8 w B1 A1 n1 c1 l1) (h2 : Rd .u8 w B2 A2 n2 c2 l2) (b1 : By l1) (b2 : By l2) :
    Calls Try.prog 37 #[.slice A1 n1 c1, .slice A2 n2 c2] w fun e w' => e = .returned (.bool (decide (l1 = l2))) ∧ w = w' := by
  have k1 := run_string h1
  have k2 := run_string h2
  go_enter Try.func37, Try.ntmps37
  go_wp2_with fail
  go_ret
  exact ⟨ret_bool (str_beq b1 b2), rfl⟩

/-- What CopyBytes and their like answer: a slice of the call's own. -/
def NewOf (l : List Int) (w : World) (e : Ending) (w' : World) : Prop :=
  ∃ A n c, e = .returned (.slice A n c) ∧ Own w' w.heap.size (.slice A n c) n l ∧ Below w.heap.size w w'

/-- n has at most s digits. -/
def fitsP (n : Int) (s : Nat) : Bool := decide (0 ≤ n ∧ n < 2 ^ (8 * s))
end Go.Proofs.Ytomjnpjabfnlbaa.Oct

namespace Go.Proofs.Ytomjnpjabfnlbaa.Oct
open Go.RowKit
set_option linter.unusedVariables false

/-- What is appended to an own slice: own still, in the same blocks or newer ones. -/
def MoreOf (base : Nat) (l : List Int) (w : World) (e : Ending) (w' : World) : Prop :=
  ∃ A n c, e = .returned (.slice A n c) ∧ Own w' base (.slice A n c) n l ∧ Below base w w'

theorem num_take_lt (l : List Int) (h : By l) (k : Nat) (hk : k ≤ 3) : num (l.take k) < 16777216 := by
  have h1 := num_lt (l.take k) (h.take k)
  have h2 : (l.take k).length ≤ 3 := by rw [List.length_take]; omega
  have h3 : 256 ^ (l.take k).length ≤ 256 ^ 3 := Nat.pow_le_pow_right (by omega) h2
  omega

theorem crc_take_snoc (l : List Int) (k : Nat) (h : k < l.length) : crcN 65535 (l.take (k + 1)) = crcByte (crcN 65535 (l.take k)) (l.getD k 0) := by
  rw [take_snoc l k h, crcN_snoc]

end Go.Proofs.Ytomjnpjabfnlbaa.Oct

namespace Go.Proofs.Ytomjnpjabfnlbaa.Oct
open Go.RowKit
set_option linter.unusedVariables false

end Go.Proofs.Ytomjnpjabfnlbaa.Oct
