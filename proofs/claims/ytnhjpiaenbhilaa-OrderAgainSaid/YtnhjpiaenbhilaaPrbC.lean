/- Contracts of layer 4: the document's Check. -/
import Derived.Test.YtnhjpiaenbhilaaPrbB
namespace Go.Proofs.Ytnhjpiaenbhilaa.Oct
open Go.RowKit
set_option linter.unusedVariables false

set_option maxRecDepth 100000 in
set_option maxHeartbeats 1600000 in
theorem refCheck_any (f p t q n : Int) (w : World) : Calls Try.prog 38 #[.agg #[.int .i64 f, .int .i64 p, .int .i64 t, .int .i64 q, .int .i64 n]] w fun e w' => e = .returned (.int .i64 (checkQ f p t q n)) ∧ Below w.heap.size w w' := by
  by_cases t0 : t = 0
  · subst t0
    by_cases q0 : q = 0
    · subst q0
      by_cases h1 : (1 ≤ f ∧ f ≤ 6) ∧ (1 ≤ p ∧ p ≤ 4)
      · have k1 := show endP f p = true from decide_eq_true h1
        by_cases n0 : n < 0
        · have hp := Kp.mk (show checkQ f p 0 0 n = 2 by exact if_neg (by unfold okQ; omega))
          clear h1
          go_enter Try.func38, Try.ntmps38
          go_wp2_with (go_at_call 73; refine (end_any _ _ _).mono ?_; rintro e w' ⟨rfl, rfl⟩; simp only [k1])
          rw [hp.out]
          go_ret
          exact ⟨rfl, (Below.refl _ _).alloc (Nat.le_refl _) _⟩
        · by_cases n1 : 65535 < n
          · have hp := Kp.mk (show checkQ f p 0 0 n = 2 by exact if_neg (by unfold okQ; omega))
            clear h1
            go_enter Try.func38, Try.ntmps38
            go_wp2_with (go_at_call 73; refine (end_any _ _ _).mono ?_; rintro e w' ⟨rfl, rfl⟩; simp only [k1])
            rw [hp.out]
            go_ret
            exact ⟨rfl, (Below.refl _ _).alloc (Nat.le_refl _) _⟩
          · have hp := Kp.mk (show checkQ f p 0 0 n = 0 by exact if_pos (by unfold okQ; omega))
            clear h1
            go_enter Try.func38, Try.ntmps38
            go_wp2_with (go_at_call 73; refine (end_any _ _ _).mono ?_; rintro e w' ⟨rfl, rfl⟩; simp only [k1])
            rw [hp.out]
            go_ret
            exact ⟨rfl, (Below.refl _ _).alloc (Nat.le_refl _) _⟩
      · have k1 := show endP f p = false from decide_eq_false h1
        have hp := Kp.mk (show checkQ f p 0 0 n = 2 by exact if_neg (by unfold okQ; omega))
        clear h1
        go_enter Try.func38, Try.ntmps38
        go_wp2_with (go_at_call 73; refine (end_any _ _ _).mono ?_; rintro e w' ⟨rfl, rfl⟩; simp only [k1])
        rw [hp.out]
        go_ret
        exact ⟨rfl, (Below.refl _ _).alloc (Nat.le_refl _) _⟩
    · have e2 : (q == 0) = false := beq_eq_false_iff_ne.2 q0
      have k0 := show endP 0 q = false from decide_eq_false (by omega)
      have hp := Kp.mk (show checkQ f p 0 q n = 2 by exact if_neg (by unfold okQ; omega))
      clear q0
      go_enter Try.func38, Try.ntmps38
      go_wp2_with (go_at_call 73; refine (end_any _ _ _).mono ?_; rintro e w' ⟨rfl, rfl⟩; simp only [k0])
      rw [hp.out]
      go_ret
      exact ⟨rfl, (Below.refl _ _).alloc (Nat.le_refl _) _⟩
  · have e1 : (t == 0) = false := beq_eq_false_iff_ne.2 t0
    by_cases h0 : (1 ≤ t ∧ t ≤ 6) ∧ (1 ≤ q ∧ q ≤ 4)
    · have k0 := show endP t q = true from decide_eq_true h0
      by_cases h1 : (1 ≤ f ∧ f ≤ 6) ∧ (1 ≤ p ∧ p ≤ 4)
      · have k1 := show endP f p = true from decide_eq_true h1
        by_cases n0 : n < 0
        · have hp := Kp.mk (show checkQ f p t q n = 2 by exact if_neg (by unfold okQ; omega))
          clear h0 t0 h1
          go_enter Try.func38, Try.ntmps38
          go_wp2_with (go_at_call 73; refine (end_any _ _ _).mono ?_; rintro e w' ⟨rfl, rfl⟩; simp only [k0, k1])
          rw [hp.out]
          go_ret
          exact ⟨rfl, (Below.refl _ _).alloc (Nat.le_refl _) _⟩
        · by_cases n1 : 65535 < n
          · have hp := Kp.mk (show checkQ f p t q n = 2 by exact if_neg (by unfold okQ; omega))
            clear h0 t0 h1
            go_enter Try.func38, Try.ntmps38
            go_wp2_with (go_at_call 73; refine (end_any _ _ _).mono ?_; rintro e w' ⟨rfl, rfl⟩; simp only [k0, k1])
            rw [hp.out]
            go_ret
            exact ⟨rfl, (Below.refl _ _).alloc (Nat.le_refl _) _⟩
          · have hp := Kp.mk (show checkQ f p t q n = 0 by exact if_pos (by unfold okQ; omega))
            clear h0 t0 h1
            go_enter Try.func38, Try.ntmps38
            go_wp2_with (go_at_call 73; refine (end_any _ _ _).mono ?_; rintro e w' ⟨rfl, rfl⟩; simp only [k0, k1])
            rw [hp.out]
            go_ret
            exact ⟨rfl, (Below.refl _ _).alloc (Nat.le_refl _) _⟩
      · have k1 := show endP f p = false from decide_eq_false h1
        have hp := Kp.mk (show checkQ f p t q n = 2 by exact if_neg (by unfold okQ; omega))
        clear h0 t0 h1
        go_enter Try.func38, Try.ntmps38
        go_wp2_with (go_at_call 73; refine (end_any _ _ _).mono ?_; rintro e w' ⟨rfl, rfl⟩; simp only [k0, k1])
        rw [hp.out]
        go_ret
        exact ⟨rfl, (Below.refl _ _).alloc (Nat.le_refl _) _⟩
    · have k0 := show endP t q = false from decide_eq_false h0
      have hp := Kp.mk (show checkQ f p t q n = 2 by exact if_neg (by unfold okQ; omega))
      clear h0 t0
      go_enter Try.func38, Try.ntmps38
      go_wp2_with (go_at_call 73; refine (end_any _ _ _).mono ?_; rintro e w' ⟨rfl, rfl⟩; simp only [k0])
      rw [hp.out]
      go_ret
      exact ⟨rfl, (Below.refl _ _).alloc (Nat.le_refl _) _⟩

end Go.Proofs.Ytnhjpiaenbhilaa.Oct
