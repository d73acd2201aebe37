/- Contracts of layer 6: the document's Match, Rule, and whether a rule is the zero one. The document's SameRule. -/
import Derived.Test.YtcolklkjaifplaaOrdB
import Derived.Test.YtcolklkjaifplaaOrdH
import Derived.BigQuiet
namespace Go.Proofs.Ytcolklkjaifplaa.Oct
open Go.RowKit
set_option linter.unusedVariables false
set_option linter.unusedSimpArgs false

set_option maxRecDepth 100000 in
set_option maxHeartbeats 1600000 in
theorem refMatchO_any (x : MaskV) (w : World) : Calls Try.prog 129 #[.agg #[.int .i64 x.v, .int .i64 x.m, .int .u8 x.b0, .int .u8 x.b1, .int .u8 x.b2, .int .u8 x.i0, .int .u8 x.i1, .int .u8 x.i2]] w fun e w' => e = .returned (.int .i64 (checkM x)) ∧ Below w.heap.size w w' := by
  by_cases c0 : (inB x.v 0 200) = true
  rotate_left
  · have c0' : (inB x.v 0 200) = false := by simpa using c0
    clear c0
    have hp := Kp.mk (show checkM x = 2 by unfold checkM; rw [if_neg (fun h => by have h := (okM_Bo x).1 h; unfold coverB at h; simp only [c0'] at h; simp at h)])
    go_enter Try.func129, Try.ntmps129
    go_wp2_with (first | (go_at_call 128; refine (refIn_any _ _ _ _).mono ?_; rintro e w' ⟨rfl, rfl⟩; simp only [c0']) | (go_at_call 127; refine (refIs_any _ _).mono ?_; rintro e w' ⟨rfl, rfl⟩))
    refine wp_loop_rounds (3 + 1) ?_
    rw [rounds_succ]
    go_wp2_with (first | (go_at_call 128; refine (refIn_any _ _ _ _).mono ?_; rintro e w' ⟨rfl, rfl⟩; simp only [c0']) | (go_at_call 127; refine (refIs_any _ _).mono ?_; rintro e w' ⟨rfl, rfl⟩))
    go_quiet (fail)
    go_wp2_with (first | (go_at_call 128; refine (refIn_any _ _ _ _).mono ?_; rintro e w' ⟨rfl, rfl⟩; simp only [c0']) | (go_at_call 127; refine (refIs_any _ _).mono ?_; rintro e w' ⟨rfl, rfl⟩))
    rw [rounds_succ]
    go_wp2_with (first | (go_at_call 128; refine (refIn_any _ _ _ _).mono ?_; rintro e w' ⟨rfl, rfl⟩; simp only [c0']) | (go_at_call 127; refine (refIs_any _ _).mono ?_; rintro e w' ⟨rfl, rfl⟩))
    go_quiet (fail)
    go_wp2_with (first | (go_at_call 128; refine (refIn_any _ _ _ _).mono ?_; rintro e w' ⟨rfl, rfl⟩; simp only [c0']) | (go_at_call 127; refine (refIs_any _ _).mono ?_; rintro e w' ⟨rfl, rfl⟩))
    rw [rounds_succ]
    go_wp2_with (first | (go_at_call 128; refine (refIn_any _ _ _ _).mono ?_; rintro e w' ⟨rfl, rfl⟩; simp only [c0']) | (go_at_call 127; refine (refIs_any _ _).mono ?_; rintro e w' ⟨rfl, rfl⟩))
    go_quiet (fail)
    go_wp2_with (first | (go_at_call 128; refine (refIn_any _ _ _ _).mono ?_; rintro e w' ⟨rfl, rfl⟩; simp only [c0']) | (go_at_call 127; refine (refIs_any _ _).mono ?_; rintro e w' ⟨rfl, rfl⟩))
    rw [rounds_succ]
    go_wp2_with (first | (go_at_call 128; refine (refIn_any _ _ _ _).mono ?_; rintro e w' ⟨rfl, rfl⟩; simp only [c0']) | (go_at_call 127; refine (refIs_any _ _).mono ?_; rintro e w' ⟨rfl, rfl⟩))
    rw [hp.out]
    go_ret
    exact ⟨rfl, by repeat first | exact below_alloc w _ | refine below_drewN ?_ _⟩
  by_cases c1 : (inB x.m (-1) 4) = true
  rotate_left
  · have c1' : (inB x.m (-1) 4) = false := by simpa using c1
    clear c1
    have hp := Kp.mk (show checkM x = 2 by unfold checkM; rw [if_neg (fun h => by have h := (okM_Bo x).1 h; unfold coverB at h; simp only [c0, c1'] at h; simp at h)])
    go_enter Try.func129, Try.ntmps129
    go_wp2_with (first | (go_at_call 128; refine (refIn_any _ _ _ _).mono ?_; rintro e w' ⟨rfl, rfl⟩; simp only [c0, c1']) | (go_at_call 127; refine (refIs_any _ _).mono ?_; rintro e w' ⟨rfl, rfl⟩))
    refine wp_loop_rounds (3 + 1) ?_
    rw [rounds_succ]
    go_wp2_with (first | (go_at_call 128; refine (refIn_any _ _ _ _).mono ?_; rintro e w' ⟨rfl, rfl⟩; simp only [c0, c1']) | (go_at_call 127; refine (refIs_any _ _).mono ?_; rintro e w' ⟨rfl, rfl⟩))
    go_quiet (fail)
    go_wp2_with (first | (go_at_call 128; refine (refIn_any _ _ _ _).mono ?_; rintro e w' ⟨rfl, rfl⟩; simp only [c0, c1']) | (go_at_call 127; refine (refIs_any _ _).mono ?_; rintro e w' ⟨rfl, rfl⟩))
    rw [rounds_succ]
    go_wp2_with (first | (go_at_call 128; refine (refIn_any _ _ _ _).mono ?_; rintro e w' ⟨rfl, rfl⟩; simp only [c0, c1']) | (go_at_call 127; refine (refIs_any _ _).mono ?_; rintro e w' ⟨rfl, rfl⟩))
    go_quiet (fail)
    go_wp2_with (first | (go_at_call 128; refine (refIn_any _ _ _ _).mono ?_; rintro e w' ⟨rfl, rfl⟩; simp only [c0, c1']) | (go_at_call 127; refine (refIs_any _ _).mono ?_; rintro e w' ⟨rfl, rfl⟩))
    rw [rounds_succ]
    go_wp2_with (first | (go_at_call 128; refine (refIn_any _ _ _ _).mono ?_; rintro e w' ⟨rfl, rfl⟩; simp only [c0, c1']) | (go_at_call 127; refine (refIs_any _ _).mono ?_; rintro e w' ⟨rfl, rfl⟩))
    go_quiet (fail)
    go_wp2_with (first | (go_at_call 128; refine (refIn_any _ _ _ _).mono ?_; rintro e w' ⟨rfl, rfl⟩; simp only [c0, c1']) | (go_at_call 127; refine (refIs_any _ _).mono ?_; rintro e w' ⟨rfl, rfl⟩))
    rw [rounds_succ]
    go_wp2_with (first | (go_at_call 128; refine (refIn_any _ _ _ _).mono ?_; rintro e w' ⟨rfl, rfl⟩; simp only [c0, c1']) | (go_at_call 127; refine (refIs_any _ _).mono ?_; rintro e w' ⟨rfl, rfl⟩))
    rw [hp.out]
    go_ret
    exact ⟨rfl, by repeat first | exact below_alloc w _ | refine below_drewN ?_ _⟩
  by_cases c2 : (clr x.i0 x.b0 == 0) = true
  rotate_left
  · have c2' : (clr x.i0 x.b0 == 0) = false := by simpa using c2
    clear c2
    have hp := Kp.mk (show checkM x = 2 by unfold checkM; rw [if_neg (fun h => by have h := (okM_Bo x).1 h; unfold coverB at h; simp only [c0, c1, c2'] at h; simp at h)])
    go_enter Try.func129, Try.ntmps129
    have m0 : (bits .andNot .u8 x.i0 x.b0 == 0) = false := by unfold clr at c2'; exact c2'
    go_wp2_with (first | (go_at_call 128; refine (refIn_any _ _ _ _).mono ?_; rintro e w' ⟨rfl, rfl⟩; simp only [c0, c1, c2']) | (go_at_call 127; refine (refIs_any _ _).mono ?_; rintro e w' ⟨rfl, rfl⟩))
    refine wp_loop_rounds (3 + 1) ?_
    rw [rounds_succ]
    go_wp2_with (first | (go_at_call 128; refine (refIn_any _ _ _ _).mono ?_; rintro e w' ⟨rfl, rfl⟩; simp only [c0, c1, c2']) | (go_at_call 127; refine (refIs_any _ _).mono ?_; rintro e w' ⟨rfl, rfl⟩))
    go_quiet (fail)
    go_wp2_with (first | (go_at_call 128; refine (refIn_any _ _ _ _).mono ?_; rintro e w' ⟨rfl, rfl⟩; simp only [c0, c1, c2']) | (go_at_call 127; refine (refIs_any _ _).mono ?_; rintro e w' ⟨rfl, rfl⟩))
    rw [rounds_succ]
    go_wp2_with (first | (go_at_call 128; refine (refIn_any _ _ _ _).mono ?_; rintro e w' ⟨rfl, rfl⟩; simp only [c0, c1, c2']) | (go_at_call 127; refine (refIs_any _ _).mono ?_; rintro e w' ⟨rfl, rfl⟩))
    go_quiet (fail)
    go_wp2_with (first | (go_at_call 128; refine (refIn_any _ _ _ _).mono ?_; rintro e w' ⟨rfl, rfl⟩; simp only [c0, c1, c2']) | (go_at_call 127; refine (refIs_any _ _).mono ?_; rintro e w' ⟨rfl, rfl⟩))
    rw [rounds_succ]
    go_wp2_with (first | (go_at_call 128; refine (refIn_any _ _ _ _).mono ?_; rintro e w' ⟨rfl, rfl⟩; simp only [c0, c1, c2']) | (go_at_call 127; refine (refIs_any _ _).mono ?_; rintro e w' ⟨rfl, rfl⟩))
    go_quiet (fail)
    go_wp2_with (first | (go_at_call 128; refine (refIn_any _ _ _ _).mono ?_; rintro e w' ⟨rfl, rfl⟩; simp only [c0, c1, c2']) | (go_at_call 127; refine (refIs_any _ _).mono ?_; rintro e w' ⟨rfl, rfl⟩))
    rw [rounds_succ]
    go_wp2_with (first | (go_at_call 128; refine (refIn_any _ _ _ _).mono ?_; rintro e w' ⟨rfl, rfl⟩; simp only [c0, c1, c2']) | (go_at_call 127; refine (refIs_any _ _).mono ?_; rintro e w' ⟨rfl, rfl⟩))
    rw [hp.out]
    go_ret
    exact ⟨rfl, by repeat first | exact below_alloc w _ | refine below_drewN ?_ _⟩
  by_cases c3 : (clr x.i1 x.b1 == 0) = true
  rotate_left
  · have c3' : (clr x.i1 x.b1 == 0) = false := by simpa using c3
    clear c3
    have hp := Kp.mk (show checkM x = 2 by unfold checkM; rw [if_neg (fun h => by have h := (okM_Bo x).1 h; unfold coverB at h; simp only [c0, c1, c2, c3'] at h; simp at h)])
    go_enter Try.func129, Try.ntmps129
    have m0 : (bits .andNot .u8 x.i0 x.b0 == 0) = true := by unfold clr at c2; exact c2
    have m1 : (bits .andNot .u8 x.i1 x.b1 == 0) = false := by unfold clr at c3'; exact c3'
    go_wp2_with (first | (go_at_call 128; refine (refIn_any _ _ _ _).mono ?_; rintro e w' ⟨rfl, rfl⟩; simp only [c0, c1, c2, c3']) | (go_at_call 127; refine (refIs_any _ _).mono ?_; rintro e w' ⟨rfl, rfl⟩))
    refine wp_loop_rounds (3 + 1) ?_
    rw [rounds_succ]
    go_wp2_with (first | (go_at_call 128; refine (refIn_any _ _ _ _).mono ?_; rintro e w' ⟨rfl, rfl⟩; simp only [c0, c1, c2, c3']) | (go_at_call 127; refine (refIs_any _ _).mono ?_; rintro e w' ⟨rfl, rfl⟩))
    go_quiet (fail)
    go_wp2_with (first | (go_at_call 128; refine (refIn_any _ _ _ _).mono ?_; rintro e w' ⟨rfl, rfl⟩; simp only [c0, c1, c2, c3']) | (go_at_call 127; refine (refIs_any _ _).mono ?_; rintro e w' ⟨rfl, rfl⟩))
    rw [rounds_succ]
    go_wp2_with (first | (go_at_call 128; refine (refIn_any _ _ _ _).mono ?_; rintro e w' ⟨rfl, rfl⟩; simp only [c0, c1, c2, c3']) | (go_at_call 127; refine (refIs_any _ _).mono ?_; rintro e w' ⟨rfl, rfl⟩))
    go_quiet (fail)
    go_wp2_with (first | (go_at_call 128; refine (refIn_any _ _ _ _).mono ?_; rintro e w' ⟨rfl, rfl⟩; simp only [c0, c1, c2, c3']) | (go_at_call 127; refine (refIs_any _ _).mono ?_; rintro e w' ⟨rfl, rfl⟩))
    rw [rounds_succ]
    go_wp2_with (first | (go_at_call 128; refine (refIn_any _ _ _ _).mono ?_; rintro e w' ⟨rfl, rfl⟩; simp only [c0, c1, c2, c3']) | (go_at_call 127; refine (refIs_any _ _).mono ?_; rintro e w' ⟨rfl, rfl⟩))
    go_quiet (fail)
    go_wp2_with (first | (go_at_call 128; refine (refIn_any _ _ _ _).mono ?_; rintro e w' ⟨rfl, rfl⟩; simp only [c0, c1, c2, c3']) | (go_at_call 127; refine (refIs_any _ _).mono ?_; rintro e w' ⟨rfl, rfl⟩))
    rw [rounds_succ]
    go_wp2_with (first | (go_at_call 128; refine (refIn_any _ _ _ _).mono ?_; rintro e w' ⟨rfl, rfl⟩; simp only [c0, c1, c2, c3']) | (go_at_call 127; refine (refIs_any _ _).mono ?_; rintro e w' ⟨rfl, rfl⟩))
    rw [hp.out]
    go_ret
    exact ⟨rfl, by repeat first | exact below_alloc w _ | refine below_drewN ?_ _⟩
  by_cases c4 : (clr x.i2 x.b2 == 0) = true
  rotate_left
  · have c4' : (clr x.i2 x.b2 == 0) = false := by simpa using c4
    clear c4
    have hp := Kp.mk (show checkM x = 2 by unfold checkM; rw [if_neg (fun h => by have h := (okM_Bo x).1 h; unfold coverB at h; simp only [c0, c1, c2, c3, c4'] at h; simp at h)])
    go_enter Try.func129, Try.ntmps129
    have m0 : (bits .andNot .u8 x.i0 x.b0 == 0) = true := by unfold clr at c2; exact c2
    have m1 : (bits .andNot .u8 x.i1 x.b1 == 0) = true := by unfold clr at c3; exact c3
    have m2 : (bits .andNot .u8 x.i2 x.b2 == 0) = false := by unfold clr at c4'; exact c4'
    go_wp2_with (first | (go_at_call 128; refine (refIn_any _ _ _ _).mono ?_; rintro e w' ⟨rfl, rfl⟩; simp only [c0, c1, c2, c3, c4']) | (go_at_call 127; refine (refIs_any _ _).mono ?_; rintro e w' ⟨rfl, rfl⟩))
    refine wp_loop_rounds (3 + 1) ?_
    rw [rounds_succ]
    go_wp2_with (first | (go_at_call 128; refine (refIn_any _ _ _ _).mono ?_; rintro e w' ⟨rfl, rfl⟩; simp only [c0, c1, c2, c3, c4']) | (go_at_call 127; refine (refIs_any _ _).mono ?_; rintro e w' ⟨rfl, rfl⟩))
    go_quiet (fail)
    go_wp2_with (first | (go_at_call 128; refine (refIn_any _ _ _ _).mono ?_; rintro e w' ⟨rfl, rfl⟩; simp only [c0, c1, c2, c3, c4']) | (go_at_call 127; refine (refIs_any _ _).mono ?_; rintro e w' ⟨rfl, rfl⟩))
    rw [rounds_succ]
    go_wp2_with (first | (go_at_call 128; refine (refIn_any _ _ _ _).mono ?_; rintro e w' ⟨rfl, rfl⟩; simp only [c0, c1, c2, c3, c4']) | (go_at_call 127; refine (refIs_any _ _).mono ?_; rintro e w' ⟨rfl, rfl⟩))
    go_quiet (fail)
    go_wp2_with (first | (go_at_call 128; refine (refIn_any _ _ _ _).mono ?_; rintro e w' ⟨rfl, rfl⟩; simp only [c0, c1, c2, c3, c4']) | (go_at_call 127; refine (refIs_any _ _).mono ?_; rintro e w' ⟨rfl, rfl⟩))
    rw [rounds_succ]
    go_wp2_with (first | (go_at_call 128; refine (refIn_any _ _ _ _).mono ?_; rintro e w' ⟨rfl, rfl⟩; simp only [c0, c1, c2, c3, c4']) | (go_at_call 127; refine (refIs_any _ _).mono ?_; rintro e w' ⟨rfl, rfl⟩))
    go_quiet (fail)
    go_wp2_with (first | (go_at_call 128; refine (refIn_any _ _ _ _).mono ?_; rintro e w' ⟨rfl, rfl⟩; simp only [c0, c1, c2, c3, c4']) | (go_at_call 127; refine (refIs_any _ _).mono ?_; rintro e w' ⟨rfl, rfl⟩))
    rw [rounds_succ]
    go_wp2_with (first | (go_at_call 128; refine (refIn_any _ _ _ _).mono ?_; rintro e w' ⟨rfl, rfl⟩; simp only [c0, c1, c2, c3, c4']) | (go_at_call 127; refine (refIs_any _ _).mono ?_; rintro e w' ⟨rfl, rfl⟩))
    rw [hp.out]
    go_ret
    exact ⟨rfl, by repeat first | exact below_alloc w _ | refine below_drewN ?_ _⟩
  have hp := Kp.mk (show checkM x = 0 by unfold checkM; rw [if_pos ((okM_Bo x).2 ⟨c0, c1, by unfold coverB; rw [c2, c3, c4]; rfl⟩)])
  go_enter Try.func129, Try.ntmps129
  have m0 : (bits .andNot .u8 x.i0 x.b0 == 0) = true := by unfold clr at c2; exact c2
  have m1 : (bits .andNot .u8 x.i1 x.b1 == 0) = true := by unfold clr at c3; exact c3
  have m2 : (bits .andNot .u8 x.i2 x.b2 == 0) = true := by unfold clr at c4; exact c4
  go_wp2_with (first | (go_at_call 128; refine (refIn_any _ _ _ _).mono ?_; rintro e w' ⟨rfl, rfl⟩; simp only [c0, c1, c2, c3, c4]) | (go_at_call 127; refine (refIs_any _ _).mono ?_; rintro e w' ⟨rfl, rfl⟩))
  refine wp_loop_rounds (3 + 1) ?_
  rw [rounds_succ]
  go_wp2_with (first | (go_at_call 128; refine (refIn_any _ _ _ _).mono ?_; rintro e w' ⟨rfl, rfl⟩; simp only [c0, c1, c2, c3, c4]) | (go_at_call 127; refine (refIs_any _ _).mono ?_; rintro e w' ⟨rfl, rfl⟩))
  go_quiet (fail)
  go_wp2_with (first | (go_at_call 128; refine (refIn_any _ _ _ _).mono ?_; rintro e w' ⟨rfl, rfl⟩; simp only [c0, c1, c2, c3, c4]) | (go_at_call 127; refine (refIs_any _ _).mono ?_; rintro e w' ⟨rfl, rfl⟩))
  rw [rounds_succ]
  go_wp2_with (first | (go_at_call 128; refine (refIn_any _ _ _ _).mono ?_; rintro e w' ⟨rfl, rfl⟩; simp only [c0, c1, c2, c3, c4]) | (go_at_call 127; refine (refIs_any _ _).mono ?_; rintro e w' ⟨rfl, rfl⟩))
  go_quiet (fail)
  go_wp2_with (first | (go_at_call 128; refine (refIn_any _ _ _ _).mono ?_; rintro e w' ⟨rfl, rfl⟩; simp only [c0, c1, c2, c3, c4]) | (go_at_call 127; refine (refIs_any _ _).mono ?_; rintro e w' ⟨rfl, rfl⟩))
  rw [rounds_succ]
  go_wp2_with (first | (go_at_call 128; refine (refIn_any _ _ _ _).mono ?_; rintro e w' ⟨rfl, rfl⟩; simp only [c0, c1, c2, c3, c4]) | (go_at_call 127; refine (refIs_any _ _).mono ?_; rintro e w' ⟨rfl, rfl⟩))
  go_quiet (fail)
  go_wp2_with (first | (go_at_call 128; refine (refIn_any _ _ _ _).mono ?_; rintro e w' ⟨rfl, rfl⟩; simp only [c0, c1, c2, c3, c4]) | (go_at_call 127; refine (refIs_any _ _).mono ?_; rintro e w' ⟨rfl, rfl⟩))
  rw [rounds_succ]
  go_wp2_with (first | (go_at_call 128; refine (refIn_any _ _ _ _).mono ?_; rintro e w' ⟨rfl, rfl⟩; simp only [c0, c1, c2, c3, c4]) | (go_at_call 127; refine (refIs_any _ _).mono ?_; rintro e w' ⟨rfl, rfl⟩))
  rw [hp.out]
  go_ret
  exact ⟨rfl, by repeat first | exact below_alloc w _ | refine below_drewN ?_ _⟩
theorem refRuleC_Bo (r : RuleV) (n : Nat) (hl : r.os.length = n) (hk : r.k = 2) (h : (r.pr == 0) = true ∧ inB r.to 0 6 = true ∧ inB r.po 0 4 = true ∧ zeroMB r.x = true ∧ ((n : Int) == 0) = true) : checkR r = 0 := by
  obtain ⟨h0, h1, h2, h3, h4⟩ := h
  rw [checkR_zero]
  refine .inr ((ctlBo_iff r).1 ?_)
  unfold ctlBo
  rw [hk, hl, h0, h1, h2, h3, h4]
  rfl
theorem refRuleC_no (r : RuleV) (n : Nat) (hl : r.os.length = n) (hk : r.k = 2) (h : ¬ ((r.pr == 0) = true ∧ inB r.to 0 6 = true ∧ inB r.po 0 4 = true ∧ zeroMB r.x = true ∧ ((n : Int) == 0) = true)) : checkR r = 2 := by
  refine if_neg (fun hh => h ?_)
  rcases hh with hh | hh
  · have := hh.1; omega
  · have := (ctlBo_iff r).2 hh
    unfold ctlBo at this
    rw [hl] at this
    simp only [Bool.and_eq_true] at this
    obtain ⟨_, h1, h2, h0, h3, h4⟩ := this
    exact ⟨h0, h1, h2, h3, h4⟩
theorem refRuleD_no (r : RuleV) (n : Nat) (hl : r.os.length = n) (hk : r.k ≠ 2) (h : ¬ ((r.k == 1) = true ∧ inB r.pr 0 65535 = true ∧ (r.to == 0) = true ∧ (r.po == 0) = true ∧ (checkM r.x == 0) = true ∧ n ≤ 8 ∧ r.os.all okOB = true)) : checkR r = 2 := by
  refine if_neg (fun hh => h ?_)
  rcases hh with hh | hh
  · have := (dataBo_iff r).2 hh
    unfold dataBo outsB at this
    simp only [Bool.and_eq_true, decide_eq_true_eq] at this
    obtain ⟨h0, h1, h2, h3, h4, h5, h6⟩ := this
    exact ⟨h0, h1, h2, h3, h4, by omega, h6⟩
  · exact absurd hh.1 hk
theorem refRuleD_Bo (r : RuleV) (n : Nat) (hl : r.os.length = n) (h : (r.k == 1) = true ∧ inB r.pr 0 65535 = true ∧ (r.to == 0) = true ∧ (r.po == 0) = true ∧ (checkM r.x == 0) = true ∧ n ≤ 8 ∧ r.os.all okOB = true) : checkR r = 0 := by
  obtain ⟨h0, h1, h2, h3, h4, h5, h6⟩ := h
  rw [checkR_zero]
  refine .inl ((dataBo_iff r).1 ?_)
  unfold dataBo outsB
  rw [h0, h1, h2, h3, h4, decide_eq_true (by omega), h6]
  rfl
set_option maxRecDepth 100000 in
set_option maxHeartbeats 1600000 in
theorem refRuleC_any {w : World} {B : Nat} {A : Option Addr} {n c : Nat} (r : RuleV) (h : Ro w B A n c r.os) (hB : B ≤ w.heap.size) (hk : r.k = 2) : Calls Try.prog 121 #[.agg #[.int .i64 r.k, .int .i64 r.pr, .int .i64 r.to, .int .i64 r.po, .int .i64 r.x.v, .int .i64 r.x.m, .int .u8 r.x.b0, .int .u8 r.x.b1, .int .u8 r.x.b2, .int .u8 r.x.i0, .int .u8 r.x.i1, .int .u8 r.x.i2, .slice A n c]] w fun e w' => e = .returned (.int .i64 (checkR r)) ∧ Below w.heap.size w w' := by
  have eM : ∀ w, (Op.equalIn 10000 28 (.agg #[.int .i64 r.x.v, .int .i64 r.x.m, .int .u8 r.x.b0, .int .u8 r.x.b1, .int .u8 r.x.b2, .int .u8 r.x.i0, .int .u8 r.x.i1, .int .u8 r.x.i2]) (.agg #[.int .i64 0, .int .i64 0, .int .u8 0, .int .u8 0, .int .u8 0, .int .u8 0, .int .u8 0, .int .u8 0])).run Try.prog w = .ok (zeroMB r.x) w := fun w => by rw [← eqMB_no]; exact eq_mask r.x noMask w
  by_cases c0 : (r.pr == 0) = true
  rotate_left
  · have c0' : (r.pr == 0) = false := by simpa using c0
    clear c0
    have hp := Kp.mk (show checkR r = 2 by exact refRuleC_no r n h.len hk (fun hh => by obtain ⟨h0, h1, h2, h3, h4⟩ := hh; simp only [c0'] at h0 h1 h2 h3 h4; simp at h0))
    go_enter Try.func121, Try.ntmps121
    have hk1 : (r.k == 2) = true := by rw [hk]; rfl
    clear hk
    go_wp2_with (first | (go_at_call 128; refine (refIn_any _ _ _ _).mono ?_; rintro e w' ⟨rfl, rfl⟩; simp only [c0']) | (go_at_call 127; refine (refIs_any _ _).mono ?_; rintro e w' ⟨rfl, rfl⟩))
    rw [hp.out]
    go_ret
    exact ⟨rfl, below_alloc w _⟩
  by_cases c1 : (inB r.to 0 6) = true
  rotate_left
  · have c1' : (inB r.to 0 6) = false := by simpa using c1
    clear c1
    have hp := Kp.mk (show checkR r = 2 by exact refRuleC_no r n h.len hk (fun hh => by obtain ⟨h0, h1, h2, h3, h4⟩ := hh; simp only [c1'] at h0 h1 h2 h3 h4; simp at h1))
    go_enter Try.func121, Try.ntmps121
    have hk1 : (r.k == 2) = true := by rw [hk]; rfl
    clear hk
    go_wp2_with (first | (go_at_call 128; refine (refIn_any _ _ _ _).mono ?_; rintro e w' ⟨rfl, rfl⟩; simp only [c0, c1']) | (go_at_call 127; refine (refIs_any _ _).mono ?_; rintro e w' ⟨rfl, rfl⟩))
    rw [hp.out]
    go_ret
    exact ⟨rfl, below_alloc w _⟩
  by_cases c2 : (inB r.po 0 4) = true
  rotate_left
  · have c2' : (inB r.po 0 4) = false := by simpa using c2
    clear c2
    have hp := Kp.mk (show checkR r = 2 by exact refRuleC_no r n h.len hk (fun hh => by obtain ⟨h0, h1, h2, h3, h4⟩ := hh; simp only [c2'] at h0 h1 h2 h3 h4; simp at h2))
    go_enter Try.func121, Try.ntmps121
    have hk1 : (r.k == 2) = true := by rw [hk]; rfl
    clear hk
    go_wp2_with (first | (go_at_call 128; refine (refIn_any _ _ _ _).mono ?_; rintro e w' ⟨rfl, rfl⟩; simp only [c0, c1, c2']) | (go_at_call 127; refine (refIs_any _ _).mono ?_; rintro e w' ⟨rfl, rfl⟩))
    rw [hp.out]
    go_ret
    exact ⟨rfl, below_alloc w _⟩
  by_cases c3 : (zeroMB r.x) = true
  rotate_left
  · have c3' : (zeroMB r.x) = false := by simpa using c3
    clear c3
    have hp := Kp.mk (show checkR r = 2 by exact refRuleC_no r n h.len hk (fun hh => by obtain ⟨h0, h1, h2, h3, h4⟩ := hh; simp only [c3'] at h0 h1 h2 h3 h4; simp at h3))
    go_enter Try.func121, Try.ntmps121
    have hk1 : (r.k == 2) = true := by rw [hk]; rfl
    clear hk
    go_wp2_with (first | (go_at_call 128; refine (refIn_any _ _ _ _).mono ?_; rintro e w' ⟨rfl, rfl⟩; simp only [c0, c1, c2, c3']) | (go_at_call 127; refine (refIs_any _ _).mono ?_; rintro e w' ⟨rfl, rfl⟩))
    rw [hp.out]
    go_ret
    exact ⟨rfl, below_alloc w _⟩
  by_cases c4 : ((n : Int) == 0) = true
  rotate_left
  · have c4' : ((n : Int) == 0) = false := by simpa using c4
    clear c4
    have hp := Kp.mk (show checkR r = 2 by exact refRuleC_no r n h.len hk (fun hh => by obtain ⟨h0, h1, h2, h3, h4⟩ := hh; simp only [c4'] at h0 h1 h2 h3 h4; simp at h4))
    go_enter Try.func121, Try.ntmps121
    have hk1 : (r.k == 2) = true := by rw [hk]; rfl
    clear hk
    go_wp2_with (first | (go_at_call 128; refine (refIn_any _ _ _ _).mono ?_; rintro e w' ⟨rfl, rfl⟩; simp only [c0, c1, c2, c3, c4']) | (go_at_call 127; refine (refIs_any _ _).mono ?_; rintro e w' ⟨rfl, rfl⟩))
    rw [hp.out]
    go_ret
    exact ⟨rfl, below_alloc w _⟩
  have hp := Kp.mk (show checkR r = 0 by exact refRuleC_Bo r n h.len hk ⟨c0, c1, c2, c3, c4⟩)
  go_enter Try.func121, Try.ntmps121
  have hk1 : (r.k == 2) = true := by rw [hk]; rfl
  clear hk
  go_wp2_with (first | (go_at_call 128; refine (refIn_any _ _ _ _).mono ?_; rintro e w' ⟨rfl, rfl⟩; simp only [c0, c1, c2, c3, c4]) | (go_at_call 127; refine (refIs_any _ _).mono ?_; rintro e w' ⟨rfl, rfl⟩))
  rw [hp.out]
  go_ret
  exact ⟨rfl, below_alloc w _⟩
set_option maxRecDepth 100000 in
set_option maxHeartbeats 3200000 in
theorem refRuleD_any {w : World} {B : Nat} {A : Option Addr} {n c : Nat} (r : RuleV) (h : Ro w B A n c r.os) (hB : B ≤ w.heap.size) (hk : r.k ≠ 2) : Calls Try.prog 121 #[.agg #[.int .i64 r.k, .int .i64 r.pr, .int .i64 r.to, .int .i64 r.po, .int .i64 r.x.v, .int .i64 r.x.m, .int .u8 r.x.b0, .int .u8 r.x.b1, .int .u8 r.x.b2, .int .u8 r.x.i0, .int .u8 r.x.i1, .int .u8 r.x.i2, .slice A n c]] w fun e w' => e = .returned (.int .i64 (checkR r)) ∧ Below w.heap.size w w' := by
  have N0 := Kp.mk (refRuleD_no r n h.len hk)
  have N1 := Kp.mk (refRuleD_Bo r n h.len)
  have hl := h.len
  have hk2 : (r.k == 2) = false := by simpa using hk
  clear hk
  by_cases c0 : (r.k == 1) = true
  rotate_left
  · have c0' : (r.k == 1) = false := by simpa using c0
    clear c0
    have hp := Kp.mk (N0.out (fun hh => by obtain ⟨h0, h1, h2, h3, h4, h5, h6⟩ := hh; rw [c0'] at h0; simp at h0))
    clear hl
    by_cases j0 : 0 < n
    · have j1 : (0 : Int) < n := by omega
      go_enter Try.func121, Try.ntmps121
      go_wp2_with (first | (go_at_call 128; refine (refIn_any _ _ _ _).mono ?_; rintro e w' ⟨rfl, rfl⟩; simp only [c0']) | (go_at_call 127; refine (refIs_any _ _).mono ?_; rintro e w' ⟨rfl, rfl⟩))
      refine wp_loop_rounds (0 + 1) ?_
      rw [rounds_succ]
      go_wp2_with (first | (go_at_call 128; refine (refIn_any _ _ _ _).mono ?_; rintro e w' ⟨rfl, rfl⟩; simp only [c0']) | (go_at_call 127; refine (refIs_any _ _).mono ?_; rintro e w' ⟨rfl, rfl⟩))
      rw [hp.out]
      go_ret
      exact ⟨rfl, below_alloc w _⟩
    · have j1 : (n : Int) ≤ 0 := by omega
      go_enter Try.func121, Try.ntmps121
      go_wp2_with (first | (go_at_call 128; refine (refIn_any _ _ _ _).mono ?_; rintro e w' ⟨rfl, rfl⟩; simp only [c0']) | (go_at_call 127; refine (refIs_any _ _).mono ?_; rintro e w' ⟨rfl, rfl⟩))
      refine wp_loop_rounds (0 + 1) ?_
      rw [rounds_succ]
      go_wp2_with (first | (go_at_call 128; refine (refIn_any _ _ _ _).mono ?_; rintro e w' ⟨rfl, rfl⟩; simp only [c0']) | (go_at_call 127; refine (refIs_any _ _).mono ?_; rintro e w' ⟨rfl, rfl⟩))
      rw [hp.out]
      go_ret
      exact ⟨rfl, below_alloc w _⟩
  by_cases c1 : (inB r.pr 0 65535) = true
  rotate_left
  · have c1' : (inB r.pr 0 65535) = false := by simpa using c1
    clear c1
    have hp := Kp.mk (N0.out (fun hh => by obtain ⟨h0, h1, h2, h3, h4, h5, h6⟩ := hh; rw [c1'] at h1; simp at h1))
    clear hl
    by_cases j0 : 0 < n
    · have j1 : (0 : Int) < n := by omega
      go_enter Try.func121, Try.ntmps121
      go_wp2_with (first | (go_at_call 128; refine (refIn_any _ _ _ _).mono ?_; rintro e w' ⟨rfl, rfl⟩; simp only [c0, c1']) | (go_at_call 127; refine (refIs_any _ _).mono ?_; rintro e w' ⟨rfl, rfl⟩))
      refine wp_loop_rounds (0 + 1) ?_
      rw [rounds_succ]
      go_wp2_with (first | (go_at_call 128; refine (refIn_any _ _ _ _).mono ?_; rintro e w' ⟨rfl, rfl⟩; simp only [c0, c1']) | (go_at_call 127; refine (refIs_any _ _).mono ?_; rintro e w' ⟨rfl, rfl⟩))
      rw [hp.out]
      go_ret
      exact ⟨rfl, below_alloc w _⟩
    · have j1 : (n : Int) ≤ 0 := by omega
      go_enter Try.func121, Try.ntmps121
      go_wp2_with (first | (go_at_call 128; refine (refIn_any _ _ _ _).mono ?_; rintro e w' ⟨rfl, rfl⟩; simp only [c0, c1']) | (go_at_call 127; refine (refIs_any _ _).mono ?_; rintro e w' ⟨rfl, rfl⟩))
      refine wp_loop_rounds (0 + 1) ?_
      rw [rounds_succ]
      go_wp2_with (first | (go_at_call 128; refine (refIn_any _ _ _ _).mono ?_; rintro e w' ⟨rfl, rfl⟩; simp only [c0, c1']) | (go_at_call 127; refine (refIs_any _ _).mono ?_; rintro e w' ⟨rfl, rfl⟩))
      rw [hp.out]
      go_ret
      exact ⟨rfl, below_alloc w _⟩
  by_cases c2 : (r.to == 0) = true
  rotate_left
  · have c2' : (r.to == 0) = false := by simpa using c2
    clear c2
    have hp := Kp.mk (N0.out (fun hh => by obtain ⟨h0, h1, h2, h3, h4, h5, h6⟩ := hh; rw [c2'] at h2; simp at h2))
    clear hl
    by_cases j0 : 0 < n
    · have j1 : (0 : Int) < n := by omega
      go_enter Try.func121, Try.ntmps121
      go_wp2_with (first | (go_at_call 128; refine (refIn_any _ _ _ _).mono ?_; rintro e w' ⟨rfl, rfl⟩; simp only [c0, c1, c2']) | (go_at_call 127; refine (refIs_any _ _).mono ?_; rintro e w' ⟨rfl, rfl⟩))
      refine wp_loop_rounds (0 + 1) ?_
      rw [rounds_succ]
      go_wp2_with (first | (go_at_call 128; refine (refIn_any _ _ _ _).mono ?_; rintro e w' ⟨rfl, rfl⟩; simp only [c0, c1, c2']) | (go_at_call 127; refine (refIs_any _ _).mono ?_; rintro e w' ⟨rfl, rfl⟩))
      rw [hp.out]
      go_ret
      exact ⟨rfl, below_alloc w _⟩
    · have j1 : (n : Int) ≤ 0 := by omega
      go_enter Try.func121, Try.ntmps121
      go_wp2_with (first | (go_at_call 128; refine (refIn_any _ _ _ _).mono ?_; rintro e w' ⟨rfl, rfl⟩; simp only [c0, c1, c2']) | (go_at_call 127; refine (refIs_any _ _).mono ?_; rintro e w' ⟨rfl, rfl⟩))
      refine wp_loop_rounds (0 + 1) ?_
      rw [rounds_succ]
      go_wp2_with (first | (go_at_call 128; refine (refIn_any _ _ _ _).mono ?_; rintro e w' ⟨rfl, rfl⟩; simp only [c0, c1, c2']) | (go_at_call 127; refine (refIs_any _ _).mono ?_; rintro e w' ⟨rfl, rfl⟩))
      rw [hp.out]
      go_ret
      exact ⟨rfl, below_alloc w _⟩
  by_cases c3 : (r.po == 0) = true
  rotate_left
  · have c3' : (r.po == 0) = false := by simpa using c3
    clear c3
    have hp := Kp.mk (N0.out (fun hh => by obtain ⟨h0, h1, h2, h3, h4, h5, h6⟩ := hh; rw [c3'] at h3; simp at h3))
    clear hl
    by_cases j0 : 0 < n
    · have j1 : (0 : Int) < n := by omega
      go_enter Try.func121, Try.ntmps121
      go_wp2_with (first | (go_at_call 128; refine (refIn_any _ _ _ _).mono ?_; rintro e w' ⟨rfl, rfl⟩; simp only [c0, c1, c2, c3']) | (go_at_call 127; refine (refIs_any _ _).mono ?_; rintro e w' ⟨rfl, rfl⟩))
      refine wp_loop_rounds (0 + 1) ?_
      rw [rounds_succ]
      go_wp2_with (first | (go_at_call 128; refine (refIn_any _ _ _ _).mono ?_; rintro e w' ⟨rfl, rfl⟩; simp only [c0, c1, c2, c3']) | (go_at_call 127; refine (refIs_any _ _).mono ?_; rintro e w' ⟨rfl, rfl⟩))
      rw [hp.out]
      go_ret
      exact ⟨rfl, below_alloc w _⟩
    · have j1 : (n : Int) ≤ 0 := by omega
      go_enter Try.func121, Try.ntmps121
      go_wp2_with (first | (go_at_call 128; refine (refIn_any _ _ _ _).mono ?_; rintro e w' ⟨rfl, rfl⟩; simp only [c0, c1, c2, c3']) | (go_at_call 127; refine (refIs_any _ _).mono ?_; rintro e w' ⟨rfl, rfl⟩))
      refine wp_loop_rounds (0 + 1) ?_
      rw [rounds_succ]
      go_wp2_with (first | (go_at_call 128; refine (refIn_any _ _ _ _).mono ?_; rintro e w' ⟨rfl, rfl⟩; simp only [c0, c1, c2, c3']) | (go_at_call 127; refine (refIs_any _ _).mono ?_; rintro e w' ⟨rfl, rfl⟩))
      rw [hp.out]
      go_ret
      exact ⟨rfl, below_alloc w _⟩
  by_cases c4 : (checkM r.x == 0) = true
  rotate_left
  · have c4' : (checkM r.x == 0) = false := by simpa using c4
    clear c4
    have hp := Kp.mk (N0.out (fun hh => by obtain ⟨h0, h1, h2, h3, h4, h5, h6⟩ := hh; rw [c4'] at h4; simp at h4))
    clear hl
    by_cases j0 : 0 < n
    · have j1 : (0 : Int) < n := by omega
      go_enter Try.func121, Try.ntmps121
      go_wp2_with (first | (go_at_call 128; refine (refIn_any _ _ _ _).mono ?_; rintro e w' ⟨rfl, rfl⟩; simp only [c0, c1, c2, c3, c4']) | (go_at_call 127; refine (refIs_any _ _).mono ?_; rintro e w' ⟨rfl, rfl⟩))
      refine (refMatchO_any r.x _).mono ?_
      rintro e w1 ⟨rfl, hb1⟩
      have hv := (Vb.new 31 w [.int .i64 r.k, .int .i64 r.pr, .int .i64 r.to, .int .i64 r.po, .int .i64 r.x.v, .int .i64 r.x.m, .int .u8 r.x.b0, .int .u8 r.x.b1, .int .u8 r.x.b2, .int .u8 r.x.i0, .int .u8 r.x.i1, .int .u8 r.x.i2, .slice A n c]).below hb1 (by simp)
      have hb0 : Below w.heap.size w w1 := (below_alloc w (.cells #[.int .i64 r.k, .int .i64 r.pr, .int .i64 r.to, .int .i64 r.po, .int .i64 r.x.v, .int .i64 r.x.m, .int .u8 r.x.b0, .int .u8 r.x.b1, .int .u8 r.x.b2, .int .u8 r.x.i0, .int .u8 r.x.i1, .int .u8 r.x.i2, .slice A n c] 31)).trans (hb1.mono (by simp))
      have d12 := hv.cell 12 rfl
      have hz1 : w.heap.size + 1 ≤ w1.heap.size := by have := hb1.size; simpa using this
      clear hb1
      go_wp2_with (first | (go_at_call 128; refine (refIn_any _ _ _ _).mono ?_; rintro e w' ⟨rfl, rfl⟩; simp only [c0, c1, c2, c3, c4']) | (go_at_call 127; refine (refIs_any _ _).mono ?_; rintro e w' ⟨rfl, rfl⟩))
      refine wp_loop_rounds (0 + 1) ?_
      rw [rounds_succ]
      go_wp2_with (first | (go_at_call 128; refine (refIn_any _ _ _ _).mono ?_; rintro e w' ⟨rfl, rfl⟩; simp only [c0, c1, c2, c3, c4']) | (go_at_call 127; refine (refIs_any _ _).mono ?_; rintro e w' ⟨rfl, rfl⟩))
      rw [hp.out]
      go_ret
      exact ⟨rfl, hb0⟩
    · have j1 : (n : Int) ≤ 0 := by omega
      go_enter Try.func121, Try.ntmps121
      go_wp2_with (first | (go_at_call 128; refine (refIn_any _ _ _ _).mono ?_; rintro e w' ⟨rfl, rfl⟩; simp only [c0, c1, c2, c3, c4']) | (go_at_call 127; refine (refIs_any _ _).mono ?_; rintro e w' ⟨rfl, rfl⟩))
      refine (refMatchO_any r.x _).mono ?_
      rintro e w1 ⟨rfl, hb1⟩
      have hv := (Vb.new 31 w [.int .i64 r.k, .int .i64 r.pr, .int .i64 r.to, .int .i64 r.po, .int .i64 r.x.v, .int .i64 r.x.m, .int .u8 r.x.b0, .int .u8 r.x.b1, .int .u8 r.x.b2, .int .u8 r.x.i0, .int .u8 r.x.i1, .int .u8 r.x.i2, .slice A n c]).below hb1 (by simp)
      have hb0 : Below w.heap.size w w1 := (below_alloc w (.cells #[.int .i64 r.k, .int .i64 r.pr, .int .i64 r.to, .int .i64 r.po, .int .i64 r.x.v, .int .i64 r.x.m, .int .u8 r.x.b0, .int .u8 r.x.b1, .int .u8 r.x.b2, .int .u8 r.x.i0, .int .u8 r.x.i1, .int .u8 r.x.i2, .slice A n c] 31)).trans (hb1.mono (by simp))
      have d12 := hv.cell 12 rfl
      have hz1 : w.heap.size + 1 ≤ w1.heap.size := by have := hb1.size; simpa using this
      clear hb1
      go_wp2_with (first | (go_at_call 128; refine (refIn_any _ _ _ _).mono ?_; rintro e w' ⟨rfl, rfl⟩; simp only [c0, c1, c2, c3, c4']) | (go_at_call 127; refine (refIs_any _ _).mono ?_; rintro e w' ⟨rfl, rfl⟩))
      refine wp_loop_rounds (0 + 1) ?_
      rw [rounds_succ]
      go_wp2_with (first | (go_at_call 128; refine (refIn_any _ _ _ _).mono ?_; rintro e w' ⟨rfl, rfl⟩; simp only [c0, c1, c2, c3, c4']) | (go_at_call 127; refine (refIs_any _ _).mono ?_; rintro e w' ⟨rfl, rfl⟩))
      rw [hp.out]
      go_ret
      exact ⟨rfl, hb0⟩
  have CS := Kp.mk (And.intro c0 (And.intro c1 (And.intro c2 (And.intro c3 c4))))
  by_cases c5 : n ≤ 8
  rotate_left
  · have c5' : (8 : Int) < n := by omega
    have j1 : (0 : Int) < n := by omega
    have hp := Kp.mk (N0.out (fun hh => c5 hh.2.2.2.2.2.1))
    clear c5 hl
    go_enter Try.func121, Try.ntmps121
    go_wp2_with (first | (go_at_call 128; refine (refIn_any _ _ _ _).mono ?_; rintro e w' ⟨rfl, rfl⟩; simp only [c0, c1, c2, c3, c4]) | (go_at_call 127; refine (refIs_any _ _).mono ?_; rintro e w' ⟨rfl, rfl⟩))
    refine (refMatchO_any r.x _).mono ?_
    rintro e w1 ⟨rfl, hb1⟩
    have hv := (Vb.new 31 w [.int .i64 r.k, .int .i64 r.pr, .int .i64 r.to, .int .i64 r.po, .int .i64 r.x.v, .int .i64 r.x.m, .int .u8 r.x.b0, .int .u8 r.x.b1, .int .u8 r.x.b2, .int .u8 r.x.i0, .int .u8 r.x.i1, .int .u8 r.x.i2, .slice A n c]).below hb1 (by simp)
    have hb0 : Below w.heap.size w w1 := (below_alloc w (.cells #[.int .i64 r.k, .int .i64 r.pr, .int .i64 r.to, .int .i64 r.po, .int .i64 r.x.v, .int .i64 r.x.m, .int .u8 r.x.b0, .int .u8 r.x.b1, .int .u8 r.x.b2, .int .u8 r.x.i0, .int .u8 r.x.i1, .int .u8 r.x.i2, .slice A n c] 31)).trans (hb1.mono (by simp))
    have d12 := hv.cell 12 rfl
    have hz1 : w.heap.size + 1 ≤ w1.heap.size := by have := hb1.size; simpa using this
    clear hb1
    go_wp2_with (first | (go_at_call 128; refine (refIn_any _ _ _ _).mono ?_; rintro e w' ⟨rfl, rfl⟩; simp only [c0, c1, c2, c3, c4]) | (go_at_call 127; refine (refIs_any _ _).mono ?_; rintro e w' ⟨rfl, rfl⟩))
    refine wp_loop_rounds (0 + 1) ?_
    rw [rounds_succ]
    go_wp2_with (first | (go_at_call 128; refine (refIn_any _ _ _ _).mono ?_; rintro e w' ⟨rfl, rfl⟩; simp only [c0]) | (go_at_call 127; refine (refIs_any _ _).mono ?_; rintro e w' ⟨rfl, rfl⟩))
    rw [hp.out]
    go_ret
    exact ⟨rfl, hb0⟩
  have c5' : (n : Int) ≤ 8 := by omega
  go_enter Try.func121, Try.ntmps121
  go_wp2_with (first | (go_at_call 128; refine (refIn_any _ _ _ _).mono ?_; rintro e w' ⟨rfl, rfl⟩; simp only [c0, c1, c2, c3, c4]) | (go_at_call 127; refine (refIs_any _ _).mono ?_; rintro e w' ⟨rfl, rfl⟩))
  refine (refMatchO_any r.x _).mono ?_
  rintro e w1 ⟨rfl, hb1⟩
  have hv := (Vb.new 31 w [.int .i64 r.k, .int .i64 r.pr, .int .i64 r.to, .int .i64 r.po, .int .i64 r.x.v, .int .i64 r.x.m, .int .u8 r.x.b0, .int .u8 r.x.b1, .int .u8 r.x.b2, .int .u8 r.x.i0, .int .u8 r.x.i1, .int .u8 r.x.i2, .slice A n c]).below hb1 (by simp)
  have hb0 : Below w.heap.size w w1 := (below_alloc w (.cells #[.int .i64 r.k, .int .i64 r.pr, .int .i64 r.to, .int .i64 r.po, .int .i64 r.x.v, .int .i64 r.x.m, .int .u8 r.x.b0, .int .u8 r.x.b1, .int .u8 r.x.b2, .int .u8 r.x.i0, .int .u8 r.x.i1, .int .u8 r.x.i2, .slice A n c] 31)).trans (hb1.mono (by simp))
  have d12 := hv.cell 12 rfl
  have hz1 : w.heap.size + 1 ≤ w1.heap.size := by have := hb1.size; simpa using this
  clear hb1
  go_wp2_with (first | (go_at_call 128; refine (refIn_any _ _ _ _).mono ?_; rintro e w' ⟨rfl, rfl⟩; simp only [c0, c1, c2, c3, c4]) | (go_at_call 127; refine (refIs_any _ _).mono ?_; rintro e w' ⟨rfl, rfl⟩))
  clear d12 c0 c1 c2 c3 c4
  go_loopw [3, 4] (fun ok i wr => ∃ k : Nat, k ≤ n ∧ i = .int .i64 k ∧ ok = .bool ((r.os.take k).all okOB) ∧ Below (w.heap.size + 1) w1 wr) (fun _ i _ => n - (intOf i).toNat)
  case atStart => exact ⟨0, by omega, rfl, rfl, Below.refl _ _⟩
  case round =>
    obtain ⟨k, hk, rfl, rfl, hb⟩ := hrel
    have hz := hb.size
    have d12 := (hv.below hb (by omega)).cell 12 rfl
    have hb00 := hb0.trans (hb.mono (by omega))
    by_cases ha : (r.os.take k).all okOB = true
    rotate_left
    · have ha' : (r.os.take k).all okOB = false := by simpa using ha
      have hp := Kp.mk (N0.out (fun hh => ha (by have h6 := hh.2.2.2.2.2.2; rw [List.all_eq_true] at h6 ⊢; exact fun x hx => h6 x (List.mem_of_mem_take hx))))
      clear ha hl
      by_cases hlt : k < n
      · have j1 : (k : Int) < n := by omega
        go_wp2_with (first | (go_at_call 128; refine (refIn_any _ _ _ _).mono ?_; rintro e w' ⟨rfl, rfl⟩; simp only [ha']) | (go_at_call 127; refine (refIs_any _ _).mono ?_; rintro e w' ⟨rfl, rfl⟩))
        rw [hp.out]
        go_ret
        exact ⟨rfl, hb00⟩
      · have j1 : k = n := by omega
        subst j1
        go_wp2_with (first | (go_at_call 128; refine (refIn_any _ _ _ _).mono ?_; rintro e w' ⟨rfl, rfl⟩; simp only [ha']) | (go_at_call 127; refine (refIs_any _ _).mono ?_; rintro e w' ⟨rfl, rfl⟩))
        rw [hp.out]
        go_ret
        exact ⟨rfl, hb00⟩
    by_cases hlt : k < n
    rotate_left
    · obtain rfl : k = n := by omega
      have hp := Kp.mk (N1.out ⟨CS.out.1, CS.out.2.1, CS.out.2.2.1, CS.out.2.2.2.1, CS.out.2.2.2.2, c5, by have := ha; rw [List.take_of_length_le (by omega)] at this; exact this⟩)
      clear hl
      go_wp2_with (first | (go_at_call 128; refine (refIn_any _ _ _ _).mono ?_; rintro e w' ⟨rfl, rfl⟩; simp only [ha]) | (go_at_call 127; refine (refIs_any _ _).mono ?_; rintro e w' ⟨rfl, rfl⟩))
      rw [hp.out]
      go_ret
      exact ⟨rfl, hb00⟩
    obtain ⟨b, off, rfl, hbB, hc⟩ := (h.below' hb00 hB).at_ (by omega)
    obtain ⟨o, hok⟩ : ∃ o, r.os[k]? = some o := ⟨_, List.getElem?_eq_getElem (by omega)⟩
    obtain ⟨d0, d1, d2, d3⟩ := hc k o hok
    have j1 : (k : Int) < n := by omega
    have HS := Kp.mk (fun (bb : Bool) (hbb : okOB o = bb) => show (r.os.take (k + 1)).all okOB = bb by rw [List.take_add_one, List.all_append, ha, hok]; simp [hbb])
    clear hc hok hl N0 N1 CS
    by_cases e0 : inB o.p 0 4 = true
    rotate_left
    · have e0' : inB o.p 0 4 = false := by simpa using e0
      clear e0
      have hp := Kp.mk (HS.out false (by unfold okOB; rw [e0']; rfl))
      clear HS
      go_wp2_with (first | (go_at_call 128; refine (refIn_any _ _ _ _).mono ?_; rintro e w' ⟨rfl, rfl⟩; simp only [ha, e0']) | (go_at_call 127; refine (refIs_any _ _).mono ?_; rintro e w' ⟨rfl, rfl⟩))
      refine wp_loop_rounds (3 + 1) ?_
      rw [rounds_succ]
      go_wp2_with (first | (go_at_call 128; refine (refIn_any _ _ _ _).mono ?_; rintro e w' ⟨rfl, rfl⟩; simp only [ha, e0']) | (go_at_call 127; refine (refIs_any _ _).mono ?_; rintro e w' ⟨rfl, rfl⟩))
      rw [rounds_succ]
      go_wp2_with (first | (go_at_call 128; refine (refIn_any _ _ _ _).mono ?_; rintro e w' ⟨rfl, rfl⟩; simp only [ha, e0']) | (go_at_call 127; refine (refIs_any _ _).mono ?_; rintro e w' ⟨rfl, rfl⟩))
      rw [rounds_succ]
      go_wp2_with (first | (go_at_call 128; refine (refIn_any _ _ _ _).mono ?_; rintro e w' ⟨rfl, rfl⟩; simp only [ha, e0']) | (go_at_call 127; refine (refIs_any _ _).mono ?_; rintro e w' ⟨rfl, rfl⟩))
      rw [rounds_succ]
      go_wp2_with (first | (go_at_call 128; refine (refIn_any _ _ _ _).mono ?_; rintro e w' ⟨rfl, rfl⟩; simp only [ha, e0']) | (go_at_call 127; refine (refIs_any _ _).mono ?_; rintro e w' ⟨rfl, rfl⟩))
      go_roundw
      case rel => exact ⟨k + 1, by omega, by go_num, by rw [hp.out], hb.trans ((below_alloc wr _).mono (by omega))⟩
      case measure => simp [intOf]; omega
    by_cases e1 : inB o.a (-1) 255 = true
    rotate_left
    · have e1' : inB o.a (-1) 255 = false := by simpa using e1
      clear e1
      have hp := Kp.mk (HS.out false (by unfold okOB; rw [e0, e1']; rfl))
      clear HS
      go_wp2_with (first | (go_at_call 128; refine (refIn_any _ _ _ _).mono ?_; rintro e w' ⟨rfl, rfl⟩; simp only [ha, e0, e1']) | (go_at_call 127; refine (refIs_any _ _).mono ?_; rintro e w' ⟨rfl, rfl⟩))
      refine wp_loop_rounds (3 + 1) ?_
      rw [rounds_succ]
      go_wp2_with (first | (go_at_call 128; refine (refIn_any _ _ _ _).mono ?_; rintro e w' ⟨rfl, rfl⟩; simp only [ha, e0, e1']) | (go_at_call 127; refine (refIs_any _ _).mono ?_; rintro e w' ⟨rfl, rfl⟩))
      rw [rounds_succ]
      go_wp2_with (first | (go_at_call 128; refine (refIn_any _ _ _ _).mono ?_; rintro e w' ⟨rfl, rfl⟩; simp only [ha, e0, e1']) | (go_at_call 127; refine (refIs_any _ _).mono ?_; rintro e w' ⟨rfl, rfl⟩))
      rw [rounds_succ]
      go_wp2_with (first | (go_at_call 128; refine (refIn_any _ _ _ _).mono ?_; rintro e w' ⟨rfl, rfl⟩; simp only [ha, e0, e1']) | (go_at_call 127; refine (refIs_any _ _).mono ?_; rintro e w' ⟨rfl, rfl⟩))
      rw [rounds_succ]
      go_wp2_with (first | (go_at_call 128; refine (refIn_any _ _ _ _).mono ?_; rintro e w' ⟨rfl, rfl⟩; simp only [ha, e0, e1']) | (go_at_call 127; refine (refIs_any _ _).mono ?_; rintro e w' ⟨rfl, rfl⟩))
      go_roundw
      case rel => exact ⟨k + 1, by omega, by go_num, by rw [hp.out], hb.trans ((below_alloc wr _).mono (by omega))⟩
      case measure => simp [intOf]; omega
    by_cases e2 : inB o.b (-1) 255 = true
    rotate_left
    · have e2' : inB o.b (-1) 255 = false := by simpa using e2
      clear e2
      have hp := Kp.mk (HS.out false (by unfold okOB; rw [e0, e1, e2']; rfl))
      clear HS
      go_wp2_with (first | (go_at_call 128; refine (refIn_any _ _ _ _).mono ?_; rintro e w' ⟨rfl, rfl⟩; simp only [ha, e0, e1, e2']) | (go_at_call 127; refine (refIs_any _ _).mono ?_; rintro e w' ⟨rfl, rfl⟩))
      refine wp_loop_rounds (3 + 1) ?_
      rw [rounds_succ]
      go_wp2_with (first | (go_at_call 128; refine (refIn_any _ _ _ _).mono ?_; rintro e w' ⟨rfl, rfl⟩; simp only [ha, e0, e1, e2']) | (go_at_call 127; refine (refIs_any _ _).mono ?_; rintro e w' ⟨rfl, rfl⟩))
      rw [rounds_succ]
      go_wp2_with (first | (go_at_call 128; refine (refIn_any _ _ _ _).mono ?_; rintro e w' ⟨rfl, rfl⟩; simp only [ha, e0, e1, e2']) | (go_at_call 127; refine (refIs_any _ _).mono ?_; rintro e w' ⟨rfl, rfl⟩))
      rw [rounds_succ]
      go_wp2_with (first | (go_at_call 128; refine (refIn_any _ _ _ _).mono ?_; rintro e w' ⟨rfl, rfl⟩; simp only [ha, e0, e1, e2']) | (go_at_call 127; refine (refIs_any _ _).mono ?_; rintro e w' ⟨rfl, rfl⟩))
      rw [rounds_succ]
      go_wp2_with (first | (go_at_call 128; refine (refIn_any _ _ _ _).mono ?_; rintro e w' ⟨rfl, rfl⟩; simp only [ha, e0, e1, e2']) | (go_at_call 127; refine (refIs_any _ _).mono ?_; rintro e w' ⟨rfl, rfl⟩))
      go_roundw
      case rel => exact ⟨k + 1, by omega, by go_num, by rw [hp.out], hb.trans ((below_alloc wr _).mono (by omega))⟩
      case measure => simp [intOf]; omega
    by_cases e3 : inB o.c (-1) 255 = true
    rotate_left
    · have e3' : inB o.c (-1) 255 = false := by simpa using e3
      clear e3
      have hp := Kp.mk (HS.out false (by unfold okOB; rw [e0, e1, e2, e3']; rfl))
      clear HS
      go_wp2_with (first | (go_at_call 128; refine (refIn_any _ _ _ _).mono ?_; rintro e w' ⟨rfl, rfl⟩; simp only [ha, e0, e1, e2, e3']) | (go_at_call 127; refine (refIs_any _ _).mono ?_; rintro e w' ⟨rfl, rfl⟩))
      refine wp_loop_rounds (3 + 1) ?_
      rw [rounds_succ]
      go_wp2_with (first | (go_at_call 128; refine (refIn_any _ _ _ _).mono ?_; rintro e w' ⟨rfl, rfl⟩; simp only [ha, e0, e1, e2, e3']) | (go_at_call 127; refine (refIs_any _ _).mono ?_; rintro e w' ⟨rfl, rfl⟩))
      rw [rounds_succ]
      go_wp2_with (first | (go_at_call 128; refine (refIn_any _ _ _ _).mono ?_; rintro e w' ⟨rfl, rfl⟩; simp only [ha, e0, e1, e2, e3']) | (go_at_call 127; refine (refIs_any _ _).mono ?_; rintro e w' ⟨rfl, rfl⟩))
      rw [rounds_succ]
      go_wp2_with (first | (go_at_call 128; refine (refIn_any _ _ _ _).mono ?_; rintro e w' ⟨rfl, rfl⟩; simp only [ha, e0, e1, e2, e3']) | (go_at_call 127; refine (refIs_any _ _).mono ?_; rintro e w' ⟨rfl, rfl⟩))
      rw [rounds_succ]
      go_wp2_with (first | (go_at_call 128; refine (refIn_any _ _ _ _).mono ?_; rintro e w' ⟨rfl, rfl⟩; simp only [ha, e0, e1, e2, e3']) | (go_at_call 127; refine (refIs_any _ _).mono ?_; rintro e w' ⟨rfl, rfl⟩))
      go_roundw
      case rel => exact ⟨k + 1, by omega, by go_num, by rw [hp.out], hb.trans ((below_alloc wr _).mono (by omega))⟩
      case measure => simp [intOf]; omega
    have hp := Kp.mk (HS.out true (by unfold okOB; rw [e0, e1, e2, e3]; rfl))
    clear HS
    go_wp2_with (first | (go_at_call 128; refine (refIn_any _ _ _ _).mono ?_; rintro e w' ⟨rfl, rfl⟩; simp only [ha, e0, e1, e2, e3]) | (go_at_call 127; refine (refIs_any _ _).mono ?_; rintro e w' ⟨rfl, rfl⟩))
    refine wp_loop_rounds (3 + 1) ?_
    rw [rounds_succ]
    go_wp2_with (first | (go_at_call 128; refine (refIn_any _ _ _ _).mono ?_; rintro e w' ⟨rfl, rfl⟩; simp only [ha, e0, e1, e2, e3]) | (go_at_call 127; refine (refIs_any _ _).mono ?_; rintro e w' ⟨rfl, rfl⟩))
    rw [rounds_succ]
    go_wp2_with (first | (go_at_call 128; refine (refIn_any _ _ _ _).mono ?_; rintro e w' ⟨rfl, rfl⟩; simp only [ha, e0, e1, e2, e3]) | (go_at_call 127; refine (refIs_any _ _).mono ?_; rintro e w' ⟨rfl, rfl⟩))
    rw [rounds_succ]
    go_wp2_with (first | (go_at_call 128; refine (refIn_any _ _ _ _).mono ?_; rintro e w' ⟨rfl, rfl⟩; simp only [ha, e0, e1, e2, e3]) | (go_at_call 127; refine (refIs_any _ _).mono ?_; rintro e w' ⟨rfl, rfl⟩))
    rw [rounds_succ]
    go_wp2_with (first | (go_at_call 128; refine (refIn_any _ _ _ _).mono ?_; rintro e w' ⟨rfl, rfl⟩; simp only [ha, e0, e1, e2, e3]) | (go_at_call 127; refine (refIs_any _ _).mono ?_; rintro e w' ⟨rfl, rfl⟩))
    go_roundw
    case rel => exact ⟨k + 1, by omega, by go_num, by rw [hp.out], hb.trans ((below_alloc wr _).mono (by omega))⟩
    case measure => simp [intOf]; omega
theorem refRuleO_any {w : World} {B : Nat} {A : Option Addr} {n c : Nat} (r : RuleV) (h : Ro w B A n c r.os) (hB : B ≤ w.heap.size) : Calls Try.prog 121 #[.agg #[.int .i64 r.k, .int .i64 r.pr, .int .i64 r.to, .int .i64 r.po, .int .i64 r.x.v, .int .i64 r.x.m, .int .u8 r.x.b0, .int .u8 r.x.b1, .int .u8 r.x.b2, .int .u8 r.x.i0, .int .u8 r.x.i1, .int .u8 r.x.i2, .slice A n c]] w fun e w' => e = .returned (.int .i64 (checkR r)) ∧ Below w.heap.size w w' := by
  by_cases hk : r.k = 2
  · exact refRuleC_any r h hB hk
  · exact refRuleD_any r h hB hk
end Go.Proofs.Ytcolklkjaifplaa.Oct

namespace Go.Proofs.Ytcolklkjaifplaa.Oct
open Go.RowKit
set_option linter.unusedVariables false
set_option linter.unusedSimpArgs false

theorem RuleV.ext_iff' (r s : RuleV) : r = s ↔ (r.k = s.k ∧ r.pr = s.pr ∧ r.to = s.to ∧ r.po = s.po ∧ r.x = s.x ∧ r.os = s.os) := by
  obtain ⟨a1, a2, a3, a4, a5, a6⟩ := r
  obtain ⟨b1, b2, b3, b4, b5, b6⟩ := s
  simp
theorem list_ext {os ps : List OutV} (hl : os.length = ps.length) (h : ∀ k, k < os.length → os[k]? = ps[k]?) : os = ps := by
  apply List.ext_getElem?
  intro i
  by_cases hi : i < os.length
  · exact h i hi
  · rw [List.getElem?_eq_none (by omega), List.getElem?_eq_none (by omega)]
def eqOs : List OutV → List OutV → Bool
  | [], [] => true
  | x :: xs, y :: ys => eqOB x y && eqOs xs ys
  | _, _ => false
theorem eqOs_iff : ∀ xs ys : List OutV, eqOs xs ys = true ↔ xs = ys
  | [], [] => by simp [eqOs]
  | x :: xs, y :: ys => by simp only [eqOs, Bool.and_eq_true, eqOB_iff, eqOs_iff xs ys, List.cons.injEq]
  | [], _ :: _ => by simp [eqOs]
  | _ :: _, [] => by simp [eqOs]
/-- Whether two rules, two orders are the same. -/
def sameR (r s : RuleV) : Bool := (r.k == s.k) && ((r.pr == s.pr) && ((r.to == s.to) && ((r.po == s.po) && (eqMB r.x s.x && eqOs r.os s.os))))
def sameO (a b : OrdV) : Bool := (a.k == b.k) && ((a.n == b.n) && ((a.m == b.m) && (eqQB a.f a.p a.t a.q a.z b.f b.p b.t b.q b.z && sameR a.r b.r)))
theorem sameR_iff (r s : RuleV) : sameR r s = true ↔ r = s := by
  rw [RuleV.ext_iff']
  unfold sameR
  simp only [Bool.and_eq_true, beq_iff_eq, eqMB_iff, eqOs_iff]
theorem sameO_iff (a b : OrdV) : sameO a b = true ↔ a = b := by
  obtain ⟨a1, a2, a3, a4, a5, a6, a7, a8, a9⟩ := a
  obtain ⟨b1, b2, b3, b4, b5, b6, b7, b8, b9⟩ := b
  unfold sameO
  simp only [Bool.and_eq_true, beq_iff_eq, eqQB_iff, sameR_iff, OrdV.mk.injEq]
  constructor
  · rintro ⟨h1, h2, h3, ⟨h5, h6, h7, h8, h9⟩, h4⟩; exact ⟨h1, h2, h3, h4, h5, h6, h7, h8, h9⟩
  · rintro ⟨h1, h2, h3, h4, h5, h6, h7, h8, h9⟩; exact ⟨h1, h2, h3, ⟨h5, h6, h7, h8, h9⟩, h4⟩
theorem sameR_yes {r s : RuleV} (h : r = s) : sameR r s = true := (sameR_iff r s).2 h
theorem sameR_no {r s : RuleV} (h : ¬ r = s) : sameR r s = false := by
  cases hs : sameR r s with
  | false => rfl
  | true => exact absurd ((sameR_iff r s).1 hs) h

set_option maxRecDepth 100000 in
set_option maxHeartbeats 3200000 in
theorem refSameRule_any {w : World} {B B2 n c m d : Nat} {A S : Option Addr} {r s : RuleV} (h : Ro w B A n c r.os) (hB : B ≤ w.heap.size) (h2 : Ro w B2 S m d s.os) (hB2 : B2 ≤ w.heap.size) : Calls Try.prog 96 #[.agg #[.int .i64 r.k, .int .i64 r.pr, .int .i64 r.to, .int .i64 r.po, .int .i64 r.x.v, .int .i64 r.x.m, .int .u8 r.x.b0, .int .u8 r.x.b1, .int .u8 r.x.b2, .int .u8 r.x.i0, .int .u8 r.x.i1, .int .u8 r.x.i2, .slice A n c], .agg #[.int .i64 s.k, .int .i64 s.pr, .int .i64 s.to, .int .i64 s.po, .int .i64 s.x.v, .int .i64 s.x.m, .int .u8 s.x.b0, .int .u8 s.x.b1, .int .u8 s.x.b2, .int .u8 s.x.i0, .int .u8 s.x.i1, .int .u8 s.x.i2, .slice S m d]] w fun e w' => e = .returned (.bool (sameR r s)) ∧ Below w.heap.size w w' := by
  have hl := h.len
  have hl2 := h2.len
  have hmx := h.max
  have E := Kp.mk (RuleV.ext_iff' r s)
  have eM : ∀ w, (Op.equalIn 10000 28 (.agg #[.int .i64 r.x.v, .int .i64 r.x.m, .int .u8 r.x.b0, .int .u8 r.x.b1, .int .u8 r.x.b2, .int .u8 r.x.i0, .int .u8 r.x.i1, .int .u8 r.x.i2]) (.agg #[.int .i64 s.x.v, .int .i64 s.x.m, .int .u8 s.x.b0, .int .u8 s.x.b1, .int .u8 s.x.b2, .int .u8 s.x.i0, .int .u8 s.x.i1, .int .u8 s.x.i2])).run Try.prog w = .ok (eqMB r.x s.x) w := fun w => eq_mask r.x s.x w
  have hb0 := below_two w (.cells #[.int .i64 r.k, .int .i64 r.pr, .int .i64 r.to, .int .i64 r.po, .int .i64 r.x.v, .int .i64 r.x.m, .int .u8 r.x.b0, .int .u8 r.x.b1, .int .u8 r.x.b2, .int .u8 r.x.i0, .int .u8 r.x.i1, .int .u8 r.x.i2, .slice A n c] 31) (.cells #[.int .i64 s.k, .int .i64 s.pr, .int .i64 s.to, .int .i64 s.po, .int .i64 s.x.v, .int .i64 s.x.m, .int .u8 s.x.b0, .int .u8 s.x.b1, .int .u8 s.x.b2, .int .u8 s.x.i0, .int .u8 s.x.i1, .int .u8 s.x.i2, .slice S m d] 31)
  by_cases c0 : (r.k == s.k) = true
  rotate_left
  · have c0' : (r.k == s.k) = false := by simpa using c0
    have hp := Kp.mk (sameR_no (r := r) (s := s) (fun hh => c0 (by rw [hh]; exact beq_self_eq_true _)))
    have n0 : (r.k != s.k) = true := by rw [bne, c0']; rfl
    clear c0 hl hl2
    go_enter Try.func96, Try.ntmps96
    go_wp2_with fail
    rw [hp.out]
    go_ret
    exact ⟨rfl, hb0⟩
  by_cases c1 : (r.pr == s.pr) = true
  rotate_left
  · have c1' : (r.pr == s.pr) = false := by simpa using c1
    have hp := Kp.mk (sameR_no (r := r) (s := s) (fun hh => c1 (by rw [hh]; exact beq_self_eq_true _)))
    have n0 : (r.k != s.k) = false := by rw [bne, c0]; rfl
    have n1 : (r.pr != s.pr) = true := by rw [bne, c1']; rfl
    clear c1 hl hl2
    go_enter Try.func96, Try.ntmps96
    go_wp2_with fail
    rw [hp.out]
    go_ret
    exact ⟨rfl, hb0⟩
  by_cases c2 : (r.to == s.to) = true
  rotate_left
  · have c2' : (r.to == s.to) = false := by simpa using c2
    have hp := Kp.mk (sameR_no (r := r) (s := s) (fun hh => c2 (by rw [hh]; exact beq_self_eq_true _)))
    have n0 : (r.k != s.k) = false := by rw [bne, c0]; rfl
    have n1 : (r.pr != s.pr) = false := by rw [bne, c1]; rfl
    have n2 : (r.to != s.to) = true := by rw [bne, c2']; rfl
    clear c2 hl hl2
    go_enter Try.func96, Try.ntmps96
    go_wp2_with fail
    rw [hp.out]
    go_ret
    exact ⟨rfl, hb0⟩
  by_cases c3 : (r.po == s.po) = true
  rotate_left
  · have c3' : (r.po == s.po) = false := by simpa using c3
    have hp := Kp.mk (sameR_no (r := r) (s := s) (fun hh => c3 (by rw [hh]; exact beq_self_eq_true _)))
    have n0 : (r.k != s.k) = false := by rw [bne, c0]; rfl
    have n1 : (r.pr != s.pr) = false := by rw [bne, c1]; rfl
    have n2 : (r.to != s.to) = false := by rw [bne, c2]; rfl
    have n3 : (r.po != s.po) = true := by rw [bne, c3']; rfl
    clear c3 hl hl2
    go_enter Try.func96, Try.ntmps96
    go_wp2_with fail
    rw [hp.out]
    go_ret
    exact ⟨rfl, hb0⟩
  by_cases c4 : (eqMB r.x s.x) = true
  rotate_left
  · have c4' : (eqMB r.x s.x) = false := by simpa using c4
    have hp := Kp.mk (sameR_no (r := r) (s := s) (fun hh => c4 ((eqMB_iff r.x s.x).2 (by rw [hh]))))
    have n0 : (r.k != s.k) = false := by rw [bne, c0]; rfl
    have n1 : (r.pr != s.pr) = false := by rw [bne, c1]; rfl
    have n2 : (r.to != s.to) = false := by rw [bne, c2]; rfl
    have n3 : (r.po != s.po) = false := by rw [bne, c3]; rfl
    clear c4 hl hl2
    go_enter Try.func96, Try.ntmps96
    go_wp2_with fail
    rw [hp.out]
    go_ret
    exact ⟨rfl, hb0⟩
  by_cases c5 : ((n : Int) == (m : Int)) = true
  rotate_left
  · have c5' : ((n : Int) == (m : Int)) = false := by simpa using c5
    have hp := Kp.mk (sameR_no (r := r) (s := s) (fun hh => c5 (by have h9 : r.os.length = s.os.length := (by rw [hh]); rw [beq_iff_eq]; omega)))
    have n0 : (r.k != s.k) = false := by rw [bne, c0]; rfl
    have n1 : (r.pr != s.pr) = false := by rw [bne, c1]; rfl
    have n2 : (r.to != s.to) = false := by rw [bne, c2]; rfl
    have n3 : (r.po != s.po) = false := by rw [bne, c3]; rfl
    have n5 : ((n : Int) != (m : Int)) = true := by rw [bne, c5']; rfl
    clear c5 hl hl2
    go_enter Try.func96, Try.ntmps96
    go_wp2_with fail
    rw [hp.out]
    go_ret
    exact ⟨rfl, hb0⟩
  have q0 : r.k = s.k := by simpa using c0
  have q1 : r.pr = s.pr := by simpa using c1
  have q2 : r.to = s.to := by simpa using c2
  have q3 : r.po = s.po := by simpa using c3
  have q4 := (eqMB_iff _ _).1 c4
  have q5 : n = m := by have := c5; rw [beq_iff_eq] at this; omega
  have HE : Kp (∀ hh : r.os = s.os, r = s) := Kp.mk (fun hh => E.out.2 ⟨q0, q1, q2, q3, q4, hh⟩)
  have n0 : (r.k != s.k) = false := by rw [bne, c0]; rfl
  have n1 : (r.pr != s.pr) = false := by rw [bne, c1]; rfl
  have n2 : (r.to != s.to) = false := by rw [bne, c2]; rfl
  have n3 : (r.po != s.po) = false := by rw [bne, c3]; rfl
  have n5 : ((n : Int) != (m : Int)) = false := by rw [bne, c5]; rfl
  have HL := Kp.mk (And.intro hl (And.intro hl2 q5))
  clear hl hl2 q5 q0 q1 q2 q3 q4 c0 c1 c2 c3 c5
  have hv1 := (Vb.new 31 w [.int .i64 r.k, .int .i64 r.pr, .int .i64 r.to, .int .i64 r.po, .int .i64 r.x.v, .int .i64 r.x.m, .int .u8 r.x.b0, .int .u8 r.x.b1, .int .u8 r.x.b2, .int .u8 r.x.i0, .int .u8 r.x.i1, .int .u8 r.x.i2, .slice A n c]).alloc (.cells #[.int .i64 s.k, .int .i64 s.pr, .int .i64 s.to, .int .i64 s.po, .int .i64 s.x.v, .int .i64 s.x.m, .int .u8 s.x.b0, .int .u8 s.x.b1, .int .u8 s.x.b2, .int .u8 s.x.i0, .int .u8 s.x.i1, .int .u8 s.x.i2, .slice S m d] 31)
  have hv2 := Vb.new 31 (w.alloc (.cells #[.int .i64 r.k, .int .i64 r.pr, .int .i64 r.to, .int .i64 r.po, .int .i64 r.x.v, .int .i64 r.x.m, .int .u8 r.x.b0, .int .u8 r.x.b1, .int .u8 r.x.b2, .int .u8 r.x.i0, .int .u8 r.x.i1, .int .u8 r.x.i2, .slice A n c] 31)) [.int .i64 s.k, .int .i64 s.pr, .int .i64 s.to, .int .i64 s.po, .int .i64 s.x.v, .int .i64 s.x.m, .int .u8 s.x.b0, .int .u8 s.x.b1, .int .u8 s.x.b2, .int .u8 s.x.i0, .int .u8 s.x.i1, .int .u8 s.x.i2, .slice S m d]
  rw [alloc_size] at hv2
  have hz0 : w.heap.size + 1 < ((w.alloc (.cells #[.int .i64 r.k, .int .i64 r.pr, .int .i64 r.to, .int .i64 r.po, .int .i64 r.x.v, .int .i64 r.x.m, .int .u8 r.x.b0, .int .u8 r.x.b1, .int .u8 r.x.b2, .int .u8 r.x.i0, .int .u8 r.x.i1, .int .u8 r.x.i2, .slice A n c] 31)).alloc (.cells #[.int .i64 s.k, .int .i64 s.pr, .int .i64 s.to, .int .i64 s.po, .int .i64 s.x.v, .int .i64 s.x.m, .int .u8 s.x.b0, .int .u8 s.x.b1, .int .u8 s.x.b2, .int .u8 s.x.i0, .int .u8 s.x.i1, .int .u8 s.x.i2, .slice S m d] 31)).heap.size := by simp
  go_enter Try.func96, Try.ntmps96
  go_wp2_with fail
  generalize ((w.alloc (.cells #[.int .i64 r.k, .int .i64 r.pr, .int .i64 r.to, .int .i64 r.po, .int .i64 r.x.v, .int .i64 r.x.m, .int .u8 r.x.b0, .int .u8 r.x.b1, .int .u8 r.x.b2, .int .u8 r.x.i0, .int .u8 r.x.i1, .int .u8 r.x.i2, .slice A n c] 31)).alloc (.cells #[.int .i64 s.k, .int .i64 s.pr, .int .i64 s.to, .int .i64 s.po, .int .i64 s.x.v, .int .i64 s.x.m, .int .u8 s.x.b0, .int .u8 s.x.b1, .int .u8 s.x.b2, .int .u8 s.x.i0, .int .u8 s.x.i1, .int .u8 s.x.i2, .slice S m d] 31)) = w0 at *
  have HA := Kp.mk (h.below' hb0 hB)
  have HS := Kp.mk (h2.below' hb0 hB2)
  have g1 := hv1.cell 12 rfl
  have g2 := hv2.cell 12 rfl
  go_loopw [5] (fun i wr => ∃ (k q : Nat), k ≤ n ∧ i = .int .i64 k ∧ Kp (∀ j, j < k → r.os[j]? = s.os[j]?) ∧ wr = w0.drewN q) (fun i _ => n - (intOf i).toNat)
  case atStart => exact ⟨0, 0, by omega, rfl, Kp.mk (fun j hj => absurd hj (by omega)), rfl⟩
  case round =>
    obtain ⟨k, q, hk, rfl, HK, rfl⟩ := hrel
    have hb1 := below_drewN hb0 q
    by_cases hltn : k < n
    rotate_left
    · obtain rfl : k = n := by omega
      have hp := Kp.mk (sameR_yes (HE.out (list_ext (by have := HL.out; omega) (fun j hj => HK.out j (by have := HL.out; omega)))))
      go_wp2_with fail
      rw [hp.out]
      go_ret
      exact ⟨rfl, hb1⟩
    obtain ⟨b, off, eA, hbB, hc⟩ := HA.out.at_ (by omega)
    obtain ⟨b2, off2, eS, hbB2, hc2⟩ := HS.out.at_ (by have := HL.out; omega)
    obtain ⟨x, hx⟩ : ∃ x, r.os[k]? = some x := ⟨_, List.getElem?_eq_getElem (by have := HL.out; omega)⟩
    obtain ⟨y, hy⟩ : ∃ y, s.os[k]? = some y := ⟨_, List.getElem?_eq_getElem (by have := HL.out; omega)⟩
    obtain ⟨d0, d1, d2, d3⟩ := hc k x hx
    obtain ⟨f0, f1, f2, f3⟩ := hc2 k y hy
    subst eA eS
    have j1 : (k : Int) < n := by omega
    have j2 : (k : Int) < m := by have := HL.out; omega
    have eO : ∀ w, (Op.equalIn 10000 93 (.agg #[.int .i64 x.p, .int .i64 x.a, .int .i64 x.b, .int .i64 x.c]) (.agg #[.int .i64 y.p, .int .i64 y.a, .int .i64 y.b, .int .i64 y.c])).run Try.prog w = .ok (eqOB x y) w := fun w => eq_out x y w
    have Hx := Kp.mk hx
    have Hy := Kp.mk hy
    clear hc hc2 hx hy
    by_cases c6 : eqOB x y = true
    rotate_left
    · have c6' : eqOB x y = false := by simpa using c6
      have hp := Kp.mk (sameR_no (r := r) (s := s) (fun hh => c6 ((eqOB_iff x y).2 (by have h1 := Hx.out; have h2 := Hy.out; rw [hh, h2] at h1; exact (Option.some.inj h1).symm))))
      clear c6
      go_wp2_with fail
      go_quiet (fail)
      go_wp2_with fail
      rw [hp.out]
      go_ret
      exact ⟨rfl, by repeat first | exact hb1 | refine below_drewN ?_ _⟩
    · have HN : Kp (∀ j, j < k + 1 → r.os[j]? = s.os[j]?) := Kp.mk (fun j hj => by
          by_cases hjk : j < k
          · exact HK.out j hjk
          · obtain rfl : j = k := by omega
            rw [Hx.out, Hy.out, (eqOB_iff x y).1 c6])
      go_wp2_with fail
      go_quiet (fail)
      go_wp2_with fail
      go_roundw
      case rel => exact ⟨k + 1, q + nq, by omega, by go_num, HN, by first | rfl | rw [World.drewN_drewN]⟩
      case measure => simp [intOf]; omega
end Go.Proofs.Ytcolklkjaifplaa.Oct
