import Derived.Test.YtnoflfbcgbhipaaGreatBring
import Derived.WalkKit
import Derived.ProofKit
import Derived.IntWalk
import Derived.WalkSpells
import Derived.Lib.Hide
import Derived.Below
set_option linter.unusedVariables false
namespace Go.Proofs.YtnoflfbcgbhipaaGreat.Ser
open Go.RowKit
def plusP (a n : Int) : Int := (a + n) % 65536
def atP (f n x : Int) : Int := if (x - f) % 65536 < n then (x - f) % 65536 else -1
theorem plus_eq (a n : Int) : IntKind.u16.wrap (a + IntKind.u16.wrap n) = plusP a n := by
 simp only [IntKind.wrap_u16]; unfold plusP; omega
theorem at_eq1 (f x : Int) : wrap64 (IntKind.u16.wrap (x - f)) = (x - f) % 65536 := by
 simp only [IntKind.wrap_u16]; unfold wrap64; omega
theorem plus_any (a n : Int) (w : World) (ha : 0 ≤ a) (ha' : a < 65536) :
  Calls Tryz.prog 184 #[.int .u16 a, .int .i64 n] w fun e w' => e = .returned (.int .u16 (plusP a n)) ∧ w = w' := by
 go_enter Tryz.func184, Tryz.ntmps184
 go_wp2
 go_ret
 exact ⟨ret_int (plus_eq a n), rfl⟩
theorem at_any (f n x : Int) (w : World) (hf : 0 ≤ f) (hf' : f < 65536) (hx : 0 ≤ x) (hx' : x < 65536) :
  Calls Tryz.prog 235 #[.agg #[.int .u16 f, .int .i64 n], .int .u16 x] w fun e w' => e = .returned (.int .i64 (atP f n x)) ∧ Below w.heap.size w w' := by
 by_cases h : n ≤ wrap64 (IntKind.u16.wrap (x - f))
 ·go_enter Tryz.func235, Tryz.ntmps235
  go_wp2
  go_ret
  exact ⟨ret_int (by rw [at_eq1] at h; unfold atP; rw [if_neg (by omega)]), (Below.refl _ _).alloc (Nat.le_refl _) _⟩
 ·go_enter Tryz.func235, Tryz.ntmps235
  go_wp2
  go_ret
  exact ⟨ret_int (by rw [at_eq1] at h ⊢; unfold atP; rw [if_pos (by omega)]), (Below.refl _ _).alloc (Nat.le_refl _) _⟩
theorem has_any (f n x : Int) (w : World) (hf : 0 ≤ f) (hf' : f < 65536) (hx : 0 ≤ x) (hx' : x < 65536) :
  Calls Tryz.prog 211 #[.agg #[.int .u16 f, .int .i64 n], .int .u16 x] w fun e w' => e = .returned (.bool (decide (0 ≤ atP f n x))) ∧ Below w.heap.size w w' := by
 go_enter Tryz.func211, Tryz.ntmps211
 go_wp2_with (go_at_call 235; refine (at_any _ _ _ _ (by omega) (by omega) (by omega) (by omega)).mono ?_; rintro e w' ⟨rfl, hb⟩)
 go_ret
 exact ⟨rfl, ((Below.refl _ _).alloc (Nat.le_refl _) _).trans (hb.mono (by simp))⟩
end Go.Proofs.YtnoflfbcgbhipaaGreat.Ser
