/- Plain facts of segments that layers above seg want too: what may be, what Check answers. -/
import Derived.Test.YtomjnpjabfnlbaaVbl
namespace Go.Proofs.Ytomjnpjabfnlbaa.Oct
open Go.RowKit
set_option linter.unusedVariables false

/-- Who it is for, or whom it is from. -/
def wayS (t f : Int) : Prop := (f = 0 ∧ (1 ≤ t ∧ t ≤ 6)) ∨ (t = 0 ∧ (1 ≤ f ∧ f ≤ 6))
/-- A segment may be, with a message of m bytes. -/
def okS (k t f h p o s a : Int) (m : Nat) : Prop :=
  (0 ≤ h ∧ h ≤ 12) ∧
  ((k = 1 ∧ (f = 0 ∧ (1 ≤ t ∧ t ≤ 6)) ∧ p = 0 ∧ o = 0 ∧ s = 0 ∧ a = 0 ∧ m = 0) ∨
   (k = 2 ∧ (t = 0 ∧ (1 ≤ f ∧ f ≤ 6)) ∧ p = 0 ∧ (0 ≤ o ∧ o ≤ 4294967295) ∧ s = 0 ∧ a = 0 ∧ m = 0) ∨
   (k = 3 ∧ (f = 0 ∧ (1 ≤ t ∧ t ≤ 6)) ∧ (1 ≤ p ∧ p ≤ 4294967295) ∧ (0 ≤ o ∧ o ≤ 4294967295) ∧ s = 0 ∧ a = 0 ∧ m = 0) ∨
   (k = 4 ∧ wayS t f ∧ (1 ≤ p ∧ p ≤ 4294967295) ∧ o = 0 ∧ s = 0 ∧ (0 ≤ a ∧ a ≤ 65535) ∧ m = 0) ∨
   (k = 5 ∧ wayS t f ∧ (1 ≤ p ∧ p ≤ 4294967295) ∧ o = 0 ∧ (0 ≤ s ∧ s ≤ 65535) ∧ a = 0 ∧ (1 ≤ m ∧ m ≤ 256)))
instance (t f : Int) : Decidable (wayS t f) := by unfold wayS; infer_instance
instance (k t f h p o s a : Int) (m : Nat) : Decidable (okS k t f h p o s a m) := by unfold okS; infer_instance
theorem okS_bd {k t f h p o s a : Int} {m : Nat} (ok : okS k t f h p o s a m) :
    (1 ≤ k ∧ k ≤ 5) ∧ (0 ≤ t ∧ t ≤ 6) ∧ (0 ≤ f ∧ f ≤ 6) ∧ (0 ≤ h ∧ h ≤ 12) ∧ (0 ≤ p ∧ p ≤ 4294967295) ∧ (0 ≤ o ∧ o ≤ 4294967295) ∧ (0 ≤ s ∧ s ≤ 65535) ∧ (0 ≤ a ∧ a ≤ 65535) ∧ m ≤ 256 := by
  unfold okS wayS at ok
  omega
/-- What Check answers. -/
def checkS (k t f h p o s a : Int) (m : Nat) : Int := if okS k t f h p o s a m then 0 else 2
theorem checkS_zero (k t f h p o s a : Int) (m : Nat) : checkS k t f h p o s a m = 0 ↔ okS k t f h p o s a m := by
  unfold checkS
  split
  · rename_i h; exact ⟨fun _ => h, fun _ => rfl⟩
  · rename_i h; exact ⟨fun e => by omega, fun e => absurd e h⟩
end Go.Proofs.Ytomjnpjabfnlbaa.Oct
