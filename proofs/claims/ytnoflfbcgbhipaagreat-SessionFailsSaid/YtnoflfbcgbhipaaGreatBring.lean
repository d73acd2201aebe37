import Derived.Test.YtnoflfbcgbhipaaGreatRows
import Derived.WalkKit
import Derived.ProofKit
import Derived.IntWalk
import Derived.WalkSpells
import Derived.Lib.Hide
import Derived.Below
import Derived.OpenShut
set_option linter.unusedVariables false
namespace Go.Proofs.YtnoflfbcgbhipaaGreat.Ser
open Go.RowKit
def bringP (n m : Int) : Int := n % m
theorem ret_int {k : IntKind} {a b : Int} (h : a = b) : Ending.returned (.int k a) = .returned (.int k b) := by rw [h]
theorem tmod_neg (n m : Int) (hm : 0 < m) (h : n.tmod m < 0) : n.tmod m + m = n % m := by
 have h2 := Int.tmod_eq_emod (a := n) (b := m)
 have h3 := Int.emod_nonneg n (b := m) (by omega)
 split at h2 <;> omega
theorem tmod_pos (n m : Int) (hm : 0 < m) (h : 0 ≤ n.tmod m) : n.tmod m = n % m := by
 have h2 := Int.tmod_eq_emod (a := n) (b := m)
 have h3 := Int.emod_lt_of_pos n (b := m) (by omega)
 split at h2 <;> omega
theorem bringP_bd (n m : Int) (hm : 0 < m) : 0 ≤ bringP n m ∧ bringP n m < m := ⟨Int.emod_nonneg _ (by omega), Int.emod_lt_of_pos _ hm⟩
theorem bring_any (n m : Int) (w : World) (hm : 0 < m) (hm' : m ≤ 1099511627776) :
  Calls Tryz.prog 30 #[.int .i64 n, .int .i64 m] w fun e w' => e = .returned (.int .i64 (bringP n m)) ∧ w = w' := by
 have hl := Int.emod_nonneg n (b := m) (by omega)
 have hr := Int.emod_lt_of_pos n hm
 have hq := Int.tmod_eq_emod (a := n) (b := m)
 by_cases h : n.tmod m < 0
 ·have e1 := tmod_neg n m hm h
  have e2 : wrap64 (n.tmod m + m) = n % m := by rw [e1]; unfold wrap64; omega
  have E2 := Lib.hid e2
  clear e1 e2 hq
  go_enter Tryz.func30, Tryz.ntmps30
  go_wp2
  go_ret
  exact ⟨ret_int E2.out, rfl⟩
 ·have e1 := tmod_pos n m hm (by omega)
  have E2 := Lib.hid e1
  clear e1 hq
  go_enter Tryz.func30, Tryz.ntmps30
  go_wp2
  go_ret
  exact ⟨ret_int E2.out, rfl⟩
end Go.Proofs.YtnoflfbcgbhipaaGreat.Ser
