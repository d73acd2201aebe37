/- Contracts of layer 3: Check, and the document's. -/
import Derived.Test.YtbgbajamjcohoaaDatP
import Derived.OpenShut
namespace Go.Proofs.Ytbgbajamjcohoaa.Oct
open Go.RowKit
set_option linter.unusedVariables false

def upToP (n m : Int) : Bool := decide (0 ≤ n ∧ n ≤ m)
theorem upTo_any (n m : Int) (w : World) : Calls Try.prog 24 #[.int .i64 n, .int .i64 m] w fun e w' => e = .returned (.bool (upToP n m)) ∧ w = w' := by
  by_cases h1 : 0 ≤ n
  · by_cases h2 : n ≤ m
    · have hp := Kp.mk (show upToP n m = true from decide_eq_true ⟨h1, h2⟩)
      go_enter Try.func24, Try.ntmps24
      go_wp2_with fail
      rw [hp.out]
      go_ret
      exact ⟨rfl, rfl⟩
    · have hp := Kp.mk (show upToP n m = false from decide_eq_false (fun h => h2 h.2))
      go_enter Try.func24, Try.ntmps24
      go_wp2_with fail
      rw [hp.out]
      go_ret
      exact ⟨rfl, rfl⟩
  · have hp := Kp.mk (show upToP n m = false from decide_eq_false (fun h => h1 h.1))
    go_enter Try.func24, Try.ntmps24
    go_wp2_with fail
    rw [hp.out]
    go_ret
    exact ⟨rfl, rfl⟩

/-- What Check answers. -/
def checkD (v h i : Int) : Int := if okD v h i then 0 else 2

theorem check_any (v h i a b c : Int) (w : World) : Calls Try.prog 11 #[.agg #[.int .i64 v, .int .i64 h, .int .i64 i, .int .u8 a, .int .u8 b, .int .u8 c]] w fun e w' => e = .returned (.int .i64 (checkD v h i)) ∧ Below w.heap.size w w' := by
  by_cases h1 : 0 ≤ v ∧ v ≤ 200
  · have k1 := show upToP v 200 = true from decide_eq_true h1
    by_cases h2 : 0 ≤ h ∧ h ≤ 12
    · have k2 := show upToP h 12 = true from decide_eq_true h2
      by_cases h3 : 0 ≤ i ∧ i ≤ 4294967295
      · have k3 := show upToP i 4294967295 = true from decide_eq_true h3
        have hp := Kp.mk (show checkD v h i = 0 from if_pos ⟨h1, h2, h3⟩)
        clear h1 h2 h3
        go_enter Try.func11, Try.ntmps11
        go_wp2_with (go_at_call 24; refine (upTo_any _ _ _).mono ?_; rintro e w' ⟨rfl, rfl⟩; simp only [k1, k2, k3])
        rw [hp.out]
        go_ret
        exact ⟨rfl, (Below.refl _ _).alloc (Nat.le_refl _) _⟩
      · have k3 := show upToP i 4294967295 = false from decide_eq_false h3
        have hp := Kp.mk (show checkD v h i = 2 from if_neg (fun e => h3 e.2.2))
        clear h1 h2 h3
        go_enter Try.func11, Try.ntmps11
        go_wp2_with (go_at_call 24; refine (upTo_any _ _ _).mono ?_; rintro e w' ⟨rfl, rfl⟩; simp only [k1, k2, k3])
        rw [hp.out]
        go_ret
        exact ⟨rfl, (Below.refl _ _).alloc (Nat.le_refl _) _⟩
    · have k2 := show upToP h 12 = false from decide_eq_false h2
      have hp := Kp.mk (show checkD v h i = 2 from if_neg (fun e => h2 e.2.1))
      clear h1 h2
      go_enter Try.func11, Try.ntmps11
      go_wp2_with (go_at_call 24; refine (upTo_any _ _ _).mono ?_; rintro e w' ⟨rfl, rfl⟩; simp only [k1, k2])
      rw [hp.out]
      go_ret
      exact ⟨rfl, (Below.refl _ _).alloc (Nat.le_refl _) _⟩
  · have k1 := show upToP v 200 = false from decide_eq_false h1
    have hp := Kp.mk (show checkD v h i = 2 from if_neg (fun e => h1 e.1))
    clear h1
    go_enter Try.func11, Try.ntmps11
    go_wp2_with (go_at_call 24; refine (upTo_any _ _ _).mono ?_; rintro e w' ⟨rfl, rfl⟩; simp only [k1])
    rw [hp.out]
    go_ret
    exact ⟨rfl, (Below.refl _ _).alloc (Nat.le_refl _) _⟩
theorem refCheck_any (v h i a b c : Int) (w : World) : Calls Try.prog 12 #[.agg #[.int .i64 v, .int .i64 h, .int .i64 i, .int .u8 a, .int .u8 b, .int .u8 c]] w fun e w' => e = .returned (.int .i64 (checkD v h i)) ∧ Below w.heap.size w w' := by
  by_cases q0 : v < 0
  · have hp := Kp.mk (show checkD v h i = 2 by exact if_neg (by unfold okD; omega))
    go_enter Try.func12, Try.ntmps12
    go_wp2_with fail
    rw [hp.out]
    go_ret
    exact ⟨rfl, (Below.refl _ _).alloc (Nat.le_refl _) _⟩
  by_cases q1 : 200 < v
  · have hp := Kp.mk (show checkD v h i = 2 by exact if_neg (by unfold okD; omega))
    go_enter Try.func12, Try.ntmps12
    go_wp2_with fail
    rw [hp.out]
    go_ret
    exact ⟨rfl, (Below.refl _ _).alloc (Nat.le_refl _) _⟩
  by_cases q2 : h < 0
  · have hp := Kp.mk (show checkD v h i = 2 by exact if_neg (by unfold okD; omega))
    go_enter Try.func12, Try.ntmps12
    go_wp2_with fail
    rw [hp.out]
    go_ret
    exact ⟨rfl, (Below.refl _ _).alloc (Nat.le_refl _) _⟩
  by_cases q3 : 12 < h
  · have hp := Kp.mk (show checkD v h i = 2 by exact if_neg (by unfold okD; omega))
    go_enter Try.func12, Try.ntmps12
    go_wp2_with fail
    rw [hp.out]
    go_ret
    exact ⟨rfl, (Below.refl _ _).alloc (Nat.le_refl _) _⟩
  by_cases q4 : i < 0
  · have hp := Kp.mk (show checkD v h i = 2 by exact if_neg (by unfold okD; omega))
    go_enter Try.func12, Try.ntmps12
    go_wp2_with fail
    rw [hp.out]
    go_ret
    exact ⟨rfl, (Below.refl _ _).alloc (Nat.le_refl _) _⟩
  by_cases q5 : 4294967295 < i
  · have hp := Kp.mk (show checkD v h i = 2 by exact if_neg (by unfold okD; omega))
    go_enter Try.func12, Try.ntmps12
    go_wp2_with fail
    rw [hp.out]
    go_ret
    exact ⟨rfl, (Below.refl _ _).alloc (Nat.le_refl _) _⟩
  have hp := Kp.mk (show checkD v h i = 0 by exact if_pos (by unfold okD; omega))
  go_enter Try.func12, Try.ntmps12
  go_wp2_with fail
  rw [hp.out]
  go_ret
  exact ⟨rfl, (Below.refl _ _).alloc (Nat.le_refl _) _⟩
end Go.Proofs.Ytbgbajamjcohoaa.Oct
