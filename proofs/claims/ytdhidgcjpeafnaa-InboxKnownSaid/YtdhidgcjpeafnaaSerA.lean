/- Contracts of the functions of package serial and of the document's answer for it. Plain functions: aheadP, lessP, plusP, atP. -/
import Derived.Test.YtdhidgcjpeafnaaBring
import Derived.WalkKit
import Derived.ProofKit
import Derived.IntWalk
import Derived.WalkSpells
import Derived.Lib.Hide
import Derived.Below
namespace Go.Proofs.Ytdhidgcjpeafnaa.Ser
open Go.RowKit
set_option linter.unusedVariables false

def aheadP (a b : Int) : Int := if 32768 ≤ (b - a) % 65536 then (b - a) % 65536 - 65536 else (b - a) % 65536
def lessP (a b : Int) : Bool := decide (0 < aheadP a b)
def plusP (a n : Int) : Int := (a + n) % 65536
def atP (f n x : Int) : Int := if (x - f) % 65536 < n then (x - f) % 65536 else -1
theorem ahead_eq (a b : Int) (ha : 0 ≤ a) (ha' : a < 65536) (hb : 0 ≤ b) (hb' : b < 65536) : wrap64 (IntKind.i16.wrap (IntKind.u16.wrap (b - a))) = aheadP a b := by
  rw [IntKind.wrap_u16]; unfold wrap64 aheadP; simp only [IntKind.wrap, IntKind.signed, IntKind.bits]; simp; split <;> omega
theorem plus_eq (a n : Int) : IntKind.u16.wrap (a + IntKind.u16.wrap n) = plusP a n := by
  simp only [IntKind.wrap_u16]; unfold plusP; omega
theorem at_eq1 (f x : Int) : wrap64 (IntKind.u16.wrap (x - f)) = (x - f) % 65536 := by
  simp only [IntKind.wrap_u16]; unfold wrap64; omega
theorem plus_any (a n : Int) (w : World) (ha : 0 ≤ a) (ha' : a < 65536) :
    Calls Try.prog 38 #[.int .u16 a, .int .i64 n] w fun e w' => e = .returned (.int .u16 (plusP a n)) ∧ w = w' := by
  go_enter Try.func38, Try.ntmps38
  go_wp2
  go_ret
  exact ⟨ret_int (plus_eq a n), rfl⟩
theorem at_any (f n x : Int) (w : World) (hf : 0 ≤ f) (hf' : f < 65536) (hx : 0 ≤ x) (hx' : x < 65536) :
    Calls Try.prog 37 #[.agg #[.int .u16 f, .int .i64 n], .int .u16 x] w fun e w' => e = .returned (.int .i64 (atP f n x)) ∧ Below w.heap.size w w' := by
  by_cases h : n ≤ wrap64 (IntKind.u16.wrap (x - f))
  · go_enter Try.func37, Try.ntmps37
    go_wp2
    go_ret
    exact ⟨ret_int (by rw [at_eq1] at h; unfold atP; rw [if_neg (by omega)]), (Below.refl _ _).alloc (Nat.le_refl _) _⟩
  · go_enter Try.func37, Try.ntmps37
    go_wp2
    go_ret
    exact ⟨ret_int (by rw [at_eq1] at h ⊢; unfold atP; rw [if_pos (by omega)]), (Below.refl _ _).alloc (Nat.le_refl _) _⟩
theorem has_any (f n x : Int) (w : World) (hf : 0 ≤ f) (hf' : f < 65536) (hx : 0 ≤ x) (hx' : x < 65536) :
    Calls Try.prog 24 #[.agg #[.int .u16 f, .int .i64 n], .int .u16 x] w fun e w' => e = .returned (.bool (decide (0 ≤ atP f n x))) ∧ Below w.heap.size w w' := by
  go_enter Try.func24, Try.ntmps24
  go_wp2_with (go_at_call 37; refine (at_any _ _ _ _ (by omega) (by omega) (by omega) (by omega)).mono ?_; rintro e w' ⟨rfl, hb⟩)
  go_ret
  exact ⟨rfl, ((Below.refl _ _).alloc (Nat.le_refl _) _).trans (hb.mono (by simp))⟩
/-! The document's answer. -/
theorem refAhead_any (a b : Int) (w : World) (ha : 0 ≤ a) (ha' : a < 65536) (hb : 0 ≤ b) (hb' : b < 65536) :
    Calls Try.prog 27 #[.int .i64 a, .int .i64 b] w fun e w' => e = .returned (.int .i64 (aheadP a b)) ∧ w = w' := by
  have hbd := bringP_bd (b - a) 65536 (by omega)
  obtain ⟨hb1, hb2⟩ := hbd
  by_cases h : 32768 ≤ bringP (b - a) 65536
  · go_enter Try.func27, Try.ntmps27
    go_wp2_with (go_at_call 10; refine (bring_any _ _ _ (by omega) (by omega)).mono ?_; rintro e w' ⟨rfl, rfl⟩)
    go_ret
    exact ⟨ret_int (by unfold aheadP; unfold bringP at h; rw [if_pos h]; rfl), rfl⟩
  · go_enter Try.func27, Try.ntmps27
    go_wp2_with (go_at_call 10; refine (bring_any _ _ _ (by omega) (by omega)).mono ?_; rintro e w' ⟨rfl, rfl⟩)
    go_ret
    exact ⟨ret_int (by unfold aheadP; unfold bringP at h; rw [if_neg (by omega)]; rfl), rfl⟩
theorem refPlus_any (a n : Int) (w : World) (ha : 0 ≤ a) (ha' : a < 65536) :
    Calls Try.prog 39 #[.int .i64 a, .int .i64 n] w fun e w' => e = .returned (.int .i64 (plusP a n)) ∧ w = w' := by
  have hbd := bringP_bd n 65536 (by omega)
  obtain ⟨hb1, hb2⟩ := hbd
  go_enter Try.func39, Try.ntmps39
  go_wp2_with (go_at_call 10; refine (bring_any _ _ _ (by omega) (by omega)).mono ?_; rintro e w' ⟨rfl, rfl⟩)
  go_ret
  exact ⟨ret_int (by unfold plusP bringP; omega), rfl⟩
end Go.Proofs.Ytdhidgcjpeafnaa.Ser
