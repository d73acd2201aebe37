/- Contracts of layer 6: what may be of matches and rules. -/
import Derived.Test.YtnhjpiaenbhilaaOrdV
namespace Go.Proofs.Ytnhjpiaenbhilaa.Oct
open Go.RowKit
set_option linter.unusedVariables false
set_option linter.unusedSimpArgs false

theorem inOrd_any (n a b : Int) (w : World) : Calls Try.prog 42 #[.int .i64 n, .int .i64 a, .int .i64 b] w fun e w' => e = .returned (.bool (inB n a b)) ∧ w = w' := by
  by_cases h1 : a ≤ n
  · by_cases h2 : n ≤ b
    · have hx := Kp.mk (And.intro h1 h2)
      have hp := Kp.mk (show inB n a b = true from decide_eq_true hx.out)
      go_enter Try.func42, Try.ntmps42
      go_wp2_with fail
      rw [hp.out]
      go_ret
      exact ⟨rfl, rfl⟩
    · have hx := Kp.mk h2
      have hp := Kp.mk (show inB n a b = false from decide_eq_false (fun h => hx.out h.2))
      go_enter Try.func42, Try.ntmps42
      go_wp2_with fail
      rw [hp.out]
      go_ret
      exact ⟨rfl, rfl⟩
  · have hx := Kp.mk h1
    have hp := Kp.mk (show inB n a b = false from decide_eq_false (fun h => hx.out h.1))
    go_enter Try.func42, Try.ntmps42
    go_wp2_with fail
    rw [hp.out]
    go_ret
    exact ⟨rfl, rfl⟩
theorem refIn_any (n a b : Int) (w : World) : Calls Try.prog 37 #[.int .i64 n, .int .i64 a, .int .i64 b] w fun e w' => e = .returned (.bool (inB n a b)) ∧ w = w' := by
  by_cases h1 : a ≤ n
  · by_cases h2 : n ≤ b
    · have hx := Kp.mk (And.intro h1 h2)
      have hp := Kp.mk (show inB n a b = true from decide_eq_true hx.out)
      go_enter Try.func37, Try.ntmps37
      go_wp2_with fail
      rw [hp.out]
      go_ret
      exact ⟨rfl, rfl⟩
    · have hx := Kp.mk h2
      have hp := Kp.mk (show inB n a b = false from decide_eq_false (fun h => hx.out h.2))
      go_enter Try.func37, Try.ntmps37
      go_wp2_with fail
      rw [hp.out]
      go_ret
      exact ⟨rfl, rfl⟩
  · have hx := Kp.mk h1
    have hp := Kp.mk (show inB n a b = false from decide_eq_false (fun h => hx.out h.1))
    go_enter Try.func37, Try.ntmps37
    go_wp2_with fail
    rw [hp.out]
    go_ret
    exact ⟨rfl, rfl⟩
/-- The document's: ErrArg, unless something is so. -/
theorem refIs_any (b : Bool) (w : World) : Calls Try.prog 36 #[.bool b] w fun e w' => e = .returned (.int .i64 (if b = true then 0 else 2)) ∧ w = w' := by
  cases b
  · go_enter Try.func36, Try.ntmps36
    go_wp2_with fail
    go_ret
    exact ⟨rfl, rfl⟩
  · go_enter Try.func36, Try.ntmps36
    go_wp2_with fail
    go_ret
    exact ⟨rfl, rfl⟩

set_option maxRecDepth 100000 in
theorem covers_any (x : MaskV) (w : World) : Calls Try.prog 43 #[.agg #[.int .u8 x.b0, .int .u8 x.b1, .int .u8 x.b2], .agg #[.int .u8 x.i0, .int .u8 x.i1, .int .u8 x.i2]] w fun e w' => e = .returned (.bool (coverB x)) ∧ Below w.heap.size w w' := by
  have hb := Kp.mk (below_two w (.cells #[.int .u8 x.b0, .int .u8 x.b1, .int .u8 x.b2] 23) (.cells #[.int .u8 x.i0, .int .u8 x.i1, .int .u8 x.i2] 23))
  by_cases c0 : (clr x.i0 x.b0 == 0) = true
  rotate_left
  · have c0' : (clr x.i0 x.b0 == 0) = false := by simpa using c0
    have n0 : (bits .andNot .u8 x.i0 x.b0 != 0) = true := by unfold clr at c0'; simp only [bne, c0', Bool.not_false]
    have hp := Kp.mk (show coverB x = false by unfold coverB; rw [c0']; rfl)
    clear c0 c0'
    go_enter Try.func43, Try.ntmps43
    go_wp2_with fail
    refine wp_loop_rounds (0 + 1) ?_
    rw [rounds_succ]
    go_wp2_with fail
    go_quiet (fail)
    go_wp2_with fail
    rw [hp.out]
    go_ret
    exact ⟨rfl, by repeat first | exact hb.out | refine below_drewN ?_ _⟩
  by_cases c1 : (clr x.i1 x.b1 == 0) = true
  rotate_left
  · have n0 : (bits .andNot .u8 x.i0 x.b0 != 0) = false := by unfold clr at c0; simp only [bne, c0, Bool.not_true]
    have c1' : (clr x.i1 x.b1 == 0) = false := by simpa using c1
    have n1 : (bits .andNot .u8 x.i1 x.b1 != 0) = true := by unfold clr at c1'; simp only [bne, c1', Bool.not_false]
    have hp := Kp.mk (show coverB x = false by unfold coverB; rw [c0, c1']; rfl)
    clear c0 c1 c1'
    go_enter Try.func43, Try.ntmps43
    go_wp2_with fail
    refine wp_loop_rounds (1 + 1) ?_
    rw [rounds_succ]
    go_wp2_with fail
    go_quiet (fail)
    go_wp2_with fail
    rw [rounds_succ]
    go_wp2_with fail
    go_quiet (fail)
    go_wp2_with fail
    rw [hp.out]
    go_ret
    exact ⟨rfl, by repeat first | exact hb.out | refine below_drewN ?_ _⟩
  by_cases c2 : (clr x.i2 x.b2 == 0) = true
  rotate_left
  · have n0 : (bits .andNot .u8 x.i0 x.b0 != 0) = false := by unfold clr at c0; simp only [bne, c0, Bool.not_true]
    have n1 : (bits .andNot .u8 x.i1 x.b1 != 0) = false := by unfold clr at c1; simp only [bne, c1, Bool.not_true]
    have c2' : (clr x.i2 x.b2 == 0) = false := by simpa using c2
    have n2 : (bits .andNot .u8 x.i2 x.b2 != 0) = true := by unfold clr at c2'; simp only [bne, c2', Bool.not_false]
    have hp := Kp.mk (show coverB x = false by unfold coverB; rw [c0, c1, c2']; rfl)
    clear c0 c1 c2 c2'
    go_enter Try.func43, Try.ntmps43
    go_wp2_with fail
    refine wp_loop_rounds (2 + 1) ?_
    rw [rounds_succ]
    go_wp2_with fail
    go_quiet (fail)
    go_wp2_with fail
    rw [rounds_succ]
    go_wp2_with fail
    go_quiet (fail)
    go_wp2_with fail
    rw [rounds_succ]
    go_wp2_with fail
    go_quiet (fail)
    go_wp2_with fail
    rw [hp.out]
    go_ret
    exact ⟨rfl, by repeat first | exact hb.out | refine below_drewN ?_ _⟩
  have n0 : (bits .andNot .u8 x.i0 x.b0 != 0) = false := by unfold clr at c0; simp only [bne, c0, Bool.not_true]
  have n1 : (bits .andNot .u8 x.i1 x.b1 != 0) = false := by unfold clr at c1; simp only [bne, c1, Bool.not_true]
  have n2 : (bits .andNot .u8 x.i2 x.b2 != 0) = false := by unfold clr at c2; simp only [bne, c2, Bool.not_true]
  have hp := Kp.mk (show coverB x = true by unfold coverB; rw [c0, c1, c2]; rfl)
  clear c0 c1 c2
  go_enter Try.func43, Try.ntmps43
  go_wp2_with fail
  refine wp_loop_rounds (3 + 1) ?_
  rw [rounds_succ]
  go_wp2_with fail
  go_quiet (fail)
  go_wp2_with fail
  rw [rounds_succ]
  go_wp2_with fail
  go_quiet (fail)
  go_wp2_with fail
  rw [rounds_succ]
  go_wp2_with fail
  go_quiet (fail)
  go_wp2_with fail
  rw [rounds_succ]
  go_wp2_with fail
  rw [hp.out]
  go_ret
  exact ⟨rfl, by repeat first | exact hb.out | refine below_drewN ?_ _⟩
set_option maxRecDepth 100000 in
set_option maxHeartbeats 1600000 in
theorem matchO_any (x : MaskV) (w : World) : Calls Try.prog 16 #[.agg #[.int .i64 x.v, .int .i64 x.m, .int .u8 x.b0, .int .u8 x.b1, .int .u8 x.b2, .int .u8 x.i0, .int .u8 x.i1, .int .u8 x.i2]] w fun e w' => e = .returned (.int .i64 (checkM x)) ∧ Below w.heap.size w w' := by
  by_cases c0 : (inB x.v 0 200) = true
  rotate_left
  · have c0' : (inB x.v 0 200) = false := by simpa using c0
    clear c0
    have hp := Kp.mk (show checkM x = 2 by unfold checkM; rw [if_neg (fun h => by have h := (okM_Bo x).1 h; simp only [c0'] at h; simp at h)])
    go_enter Try.func16, Try.ntmps16
    go_wp2_with (go_at_call 42; refine (inOrd_any _ _ _ _).mono ?_; rintro e w' ⟨rfl, rfl⟩; simp only [c0'])
    rw [hp.out]
    go_ret
    exact ⟨rfl, below_alloc w _⟩
  by_cases c1 : (inB x.m (-1) 4) = true
  rotate_left
  · have c1' : (inB x.m (-1) 4) = false := by simpa using c1
    clear c1
    have hp := Kp.mk (show checkM x = 2 by unfold checkM; rw [if_neg (fun h => by have h := (okM_Bo x).1 h; simp only [c0, c1'] at h; simp at h)])
    go_enter Try.func16, Try.ntmps16
    go_wp2_with (go_at_call 42; refine (inOrd_any _ _ _ _).mono ?_; rintro e w' ⟨rfl, rfl⟩; simp only [c0, c1'])
    rw [hp.out]
    go_ret
    exact ⟨rfl, below_alloc w _⟩
  by_cases c2 : (coverB x) = true
  rotate_left
  · have c2' : (coverB x) = false := by simpa using c2
    clear c2
    have hp := Kp.mk (show checkM x = 2 by unfold checkM; rw [if_neg (fun h => by have h := (okM_Bo x).1 h; simp only [c0, c1, c2'] at h; simp at h)])
    go_enter Try.func16, Try.ntmps16
    go_wp2_with (go_at_call 42; refine (inOrd_any _ _ _ _).mono ?_; rintro e w' ⟨rfl, rfl⟩; simp only [c0, c1, c2'])
    refine (covers_any x _).mono ?_
    rintro e w1 ⟨rfl, hb1⟩
    simp only [c0, c1, c2']
    go_wp2_with fail
    rw [hp.out]
    go_ret
    exact ⟨rfl, (below_alloc w (.cells #[.int .i64 x.v, .int .i64 x.m, .int .u8 x.b0, .int .u8 x.b1, .int .u8 x.b2, .int .u8 x.i0, .int .u8 x.i1, .int .u8 x.i2] 25)).trans (hb1.mono (by simp))⟩
  have hp := Kp.mk (show checkM x = 0 by unfold checkM; rw [if_pos ((okM_Bo x).2 ⟨c0, c1, c2⟩)])
  go_enter Try.func16, Try.ntmps16
  go_wp2_with (go_at_call 42; refine (inOrd_any _ _ _ _).mono ?_; rintro e w' ⟨rfl, rfl⟩; simp only [c0, c1, c2])
  refine (covers_any x _).mono ?_
  rintro e w1 ⟨rfl, hb1⟩
  simp only [c0, c1, c2]
  go_wp2_with fail
  rw [hp.out]
  go_ret
  exact ⟨rfl, (below_alloc w (.cells #[.int .i64 x.v, .int .i64 x.m, .int .u8 x.b0, .int .u8 x.b1, .int .u8 x.b2, .int .u8 x.i0, .int .u8 x.i1, .int .u8 x.i2] 25)).trans (hb1.mono (by simp))⟩
set_option maxRecDepth 100000 in
set_option maxHeartbeats 1600000 in
theorem areFields_any (a b c : Int) (w : World) : Calls Try.prog 91 #[.agg #[.int .i64 a, .int .i64 b, .int .i64 c]] w fun e w' => e = .returned (.bool (inB a (-1) 255 && (inB b (-1) 255 && inB c (-1) 255))) ∧ Below w.heap.size w w' := by
  have i0 : ∀ w, (Instr.index 69 (.agg #[.int .i64 a, .int .i64 b, .int .i64 c]) (.int .i64 0)).run Try.prog w = .ok (.int .i64 a) w := fun _ => by kernel_rfl
  have i1 : ∀ w, (Instr.index 69 (.agg #[.int .i64 a, .int .i64 b, .int .i64 c]) (.int .i64 1)).run Try.prog w = .ok (.int .i64 b) w := fun _ => by kernel_rfl
  have i2 : ∀ w, (Instr.index 69 (.agg #[.int .i64 a, .int .i64 b, .int .i64 c]) (.int .i64 2)).run Try.prog w = .ok (.int .i64 c) w := fun _ => by kernel_rfl
  by_cases c0 : (inB a (-1) 255) = true
  rotate_left
  · have c0' : (inB a (-1) 255) = false := by simpa using c0
    clear c0
    have hp := Kp.mk (show (inB a (-1) 255 && (inB b (-1) 255 && inB c (-1) 255)) = false by rw [c0']; rfl)
    go_enter Try.func91, Try.ntmps91
    go_wp2_with fail
    refine wp_loop_rounds (0 + 1) ?_
    rw [rounds_succ]
    go_wp2_with (go_at_call 42; refine (inOrd_any _ _ _ _).mono ?_; rintro e w' ⟨rfl, rfl⟩; simp only [c0'])
    rw [hp.out]
    go_ret
    exact ⟨rfl, below_alloc w _⟩
  by_cases c1 : (inB b (-1) 255) = true
  rotate_left
  · have c1' : (inB b (-1) 255) = false := by simpa using c1
    clear c1
    have hp := Kp.mk (show (inB a (-1) 255 && (inB b (-1) 255 && inB c (-1) 255)) = false by rw [c0, c1']; rfl)
    go_enter Try.func91, Try.ntmps91
    go_wp2_with fail
    refine wp_loop_rounds (1 + 1) ?_
    rw [rounds_succ]
    go_wp2_with (go_at_call 42; refine (inOrd_any _ _ _ _).mono ?_; rintro e w' ⟨rfl, rfl⟩; simp only [c0, c1'])
    rw [rounds_succ]
    go_wp2_with (go_at_call 42; refine (inOrd_any _ _ _ _).mono ?_; rintro e w' ⟨rfl, rfl⟩; simp only [c0, c1'])
    rw [hp.out]
    go_ret
    exact ⟨rfl, below_alloc w _⟩
  by_cases c2 : (inB c (-1) 255) = true
  rotate_left
  · have c2' : (inB c (-1) 255) = false := by simpa using c2
    clear c2
    have hp := Kp.mk (show (inB a (-1) 255 && (inB b (-1) 255 && inB c (-1) 255)) = false by rw [c0, c1, c2']; rfl)
    go_enter Try.func91, Try.ntmps91
    go_wp2_with fail
    refine wp_loop_rounds (2 + 1) ?_
    rw [rounds_succ]
    go_wp2_with (go_at_call 42; refine (inOrd_any _ _ _ _).mono ?_; rintro e w' ⟨rfl, rfl⟩; simp only [c0, c1, c2'])
    rw [rounds_succ]
    go_wp2_with (go_at_call 42; refine (inOrd_any _ _ _ _).mono ?_; rintro e w' ⟨rfl, rfl⟩; simp only [c0, c1, c2'])
    rw [rounds_succ]
    go_wp2_with (go_at_call 42; refine (inOrd_any _ _ _ _).mono ?_; rintro e w' ⟨rfl, rfl⟩; simp only [c0, c1, c2'])
    rw [hp.out]
    go_ret
    exact ⟨rfl, below_alloc w _⟩
  have hp := Kp.mk (show (inB a (-1) 255 && (inB b (-1) 255 && inB c (-1) 255)) = true by rw [c0, c1, c2]; rfl)
  go_enter Try.func91, Try.ntmps91
  go_wp2_with fail
  refine wp_loop_rounds (3 + 1) ?_
  rw [rounds_succ]
  go_wp2_with (go_at_call 42; refine (inOrd_any _ _ _ _).mono ?_; rintro e w' ⟨rfl, rfl⟩; simp only [c0, c1, c2])
  rw [rounds_succ]
  go_wp2_with (go_at_call 42; refine (inOrd_any _ _ _ _).mono ?_; rintro e w' ⟨rfl, rfl⟩; simp only [c0, c1, c2])
  rw [rounds_succ]
  go_wp2_with (go_at_call 42; refine (inOrd_any _ _ _ _).mono ?_; rintro e w' ⟨rfl, rfl⟩; simp only [c0, c1, c2])
  rw [rounds_succ]
  go_wp2_with (go_at_call 42; refine (inOrd_any _ _ _ _).mono ?_; rintro e w' ⟨rfl, rfl⟩; simp only [c0, c1, c2])
  rw [hp.out]
  go_ret
  exact ⟨rfl, below_alloc w _⟩
end Go.Proofs.Ytnhjpiaenbhilaa.Oct
