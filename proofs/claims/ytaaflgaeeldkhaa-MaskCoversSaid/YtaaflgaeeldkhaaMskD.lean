/- Contracts of layer 7: the document's Fits, Meet, Covers, Only. -/
import Derived.Test.YtaaflgaeeldkhaaMskC
import Derived.Deep.CutRange
namespace Go.Proofs.Ytaaflgaeeldkhaa.Oct
open Go.RowKit
set_option linter.unusedVariables false
set_option linter.unusedSimpArgs false

def badF (x : MaskV) (v p : Int) : Bool := ((x.v != 0) && (x.v != v)) || ((x.m != -1) && (x.m != p))
def badM (x y : MaskV) : Bool := ((x.v != 0) && ((y.v != 0) && (x.v != y.v))) || ((x.m != -1) && ((y.m != -1) && (x.m != y.m)))
/-- Bits of a header that are unlike. -/
def offB (h i b : Int) : Int := bits .and .u8 (bits .xor .u8 h i) b
def fitsR (x : MaskV) (v p a b c : Int) : Bool := !badF x v p && ((offB a x.i0 x.b0 == 0) && ((offB b x.i1 x.b1 == 0) && (offB c x.i2 x.b2 == 0)))
def cov1 (b b' i i' : Int) : Bool := (bits .andNot .u8 b b' == 0) && (offB i i' b == 0)
def coversR (x y : MaskV) : Bool := !badF x y.v y.m && (cov1 x.b0 y.b0 x.i0 y.i0 && (cov1 x.b1 y.b1 x.i1 y.i1 && cov1 x.b2 y.b2 x.i2 y.i2))
theorem badM_eith (x y : MaskV) : badM x y = !(eithB x.v y.v 0 && eithB x.m y.m (-1)) := by
  have one : ∀ a b n : Int, eithB a b n = !((a != n) && ((b != n) && (a != b))) := fun a b n => by
    unfold eithB
    by_cases h1 : a = n
    · simp [h1]
    · by_cases h2 : b = n
      · simp [h1, h2]
      · by_cases h3 : b = a
        · simp [h3]
        · have h4 : ¬ a = b := fun e => h3 e.symm
          simp [h1, h2, h3, h4]
  rw [one, one]
  unfold badM
  cases (x.v != 0 && (y.v != 0 && x.v != y.v)) <;> cases (x.m != -1 && (y.m != -1 && x.m != y.m)) <;> rfl
theorem meetB_bad {x y : MaskV} (h : badM x y = true) : meetB x y = false := by
  rw [badM_eith] at h
  unfold meetB
  cases h1 : eithB x.v y.v 0 <;> cases h2 : eithB x.m y.m (-1) <;> simp [h1, h2] at h ⊢
theorem meetB_good {x y : MaskV} (h : badM x y = false) : meetB x y = likeB x y := by
  rw [badM_eith] at h
  unfold meetB
  cases h1 : eithB x.v y.v 0 <;> cases h2 : eithB x.m y.m (-1) <;> simp [h1, h2] at h ⊢

set_option maxRecDepth 100000 in
set_option maxHeartbeats 4000000 in
theorem refFits_any (x : MaskV) (v p a b c : Int) (w : World) : Calls Try.prog 34 #[.agg #[.int .i64 x.v, .int .i64 x.m, .int .u8 x.b0, .int .u8 x.b1, .int .u8 x.b2, .int .u8 x.i0, .int .u8 x.i1, .int .u8 x.i2], .int .i64 v, .int .i64 p, .agg #[.int .u8 a, .int .u8 b, .int .u8 c]] w fun e w' => e = .returned (.bool (fitsR x v p a b c)) ∧ Below w.heap.size w w' := by
  have hx : Vb 25 ((w.alloc (.cells #[.int .i64 x.v, .int .i64 x.m, .int .u8 x.b0, .int .u8 x.b1, .int .u8 x.b2, .int .u8 x.i0, .int .u8 x.i1, .int .u8 x.i2] 25)).alloc (.cells #[.int .u8 a, .int .u8 b, .int .u8 c] 23)) w.heap.size [.int .i64 x.v, .int .i64 x.m, .int .u8 x.b0, .int .u8 x.b1, .int .u8 x.b2, .int .u8 x.i0, .int .u8 x.i1, .int .u8 x.i2] := (Vb.new 25 w (mcl x)).alloc _
  have hy : Vb 23 ((w.alloc (.cells #[.int .i64 x.v, .int .i64 x.m, .int .u8 x.b0, .int .u8 x.b1, .int .u8 x.b2, .int .u8 x.i0, .int .u8 x.i1, .int .u8 x.i2] 25)).alloc (.cells #[.int .u8 a, .int .u8 b, .int .u8 c] 23)) (w.heap.size + 1) [.int .u8 a, .int .u8 b, .int .u8 c] := by have := Vb.new 23 (w.alloc (.cells #[.int .i64 x.v, .int .i64 x.m, .int .u8 x.b0, .int .u8 x.b1, .int .u8 x.b2, .int .u8 x.i0, .int .u8 x.i1, .int .u8 x.i2] 25)) [.int .u8 a, .int .u8 b, .int .u8 c]; simpa [mcl] using this
  have hB := Kp.mk (below_two w (.cells #[.int .i64 x.v, .int .i64 x.m, .int .u8 x.b0, .int .u8 x.b1, .int .u8 x.b2, .int .u8 x.i0, .int .u8 x.i1, .int .u8 x.i2] 25) (.cells #[.int .u8 a, .int .u8 b, .int .u8 c] 23))
  go_enter Try.func34, Try.ntmps34
  go_upto_region 1 with fail
  generalize (w.alloc (.cells #[.int .i64 x.v, .int .i64 x.m, .int .u8 x.b0, .int .u8 x.b1, .int .u8 x.b2, .int .u8 x.i0, .int .u8 x.i1, .int .u8 x.i2] 25)).alloc (.cells #[.int .u8 a, .int .u8 b, .int .u8 c] 23) = w0 at *
  obtain ⟨d0, d1, d2, d3, d4, d5, d6, d7⟩ := hx.c8
  have e0 := hy.cell 0 rfl
  have e1 := hy.cell 1 rfl
  have e2 := hy.cell 2 rfl
  clear hx hy
  go_cut [29] from 10 (fun v' wx => v' = .bool (badF x v p) ∧ wx = w0)
  case first => as_aux_lemma =>
    by_cases q0 : (x.v != 0) = true
    rotate_left
    · replace q0 : (x.v != 0) = false := by simpa using q0
      by_cases q1 : (x.m != -1) = true
      rotate_left
      · replace q1 : (x.m != -1) = false := by simpa using q1
        have hp := Kp.mk (show badF x v p = false by simp [badF, q0, q1])
        go_wp2_with fail
        go_meet
        case rel => exact ⟨by rw [hp.out]; first | done | rfl, rfl⟩
      by_cases q2 : (x.m != p) = true
      rotate_left
      · replace q2 : (x.m != p) = false := by simpa using q2
        have hp := Kp.mk (show badF x v p = false by simp [badF, q0, q1, q2])
        go_wp2_with fail
        go_meet
        case rel => exact ⟨by rw [hp.out]; first | done | rfl, rfl⟩
      have hp := Kp.mk (show badF x v p = true by simp [badF, q0, q1, q2])
      go_wp2_with fail
      go_meet
      case rel => exact ⟨by rw [hp.out]; first | done | rfl, rfl⟩
    by_cases q1 : (x.v != v) = true
    rotate_left
    · replace q1 : (x.v != v) = false := by simpa using q1
      by_cases q2 : (x.m != -1) = true
      rotate_left
      · replace q2 : (x.m != -1) = false := by simpa using q2
        have hp := Kp.mk (show badF x v p = false by simp [badF, q0, q1, q2])
        go_wp2_with fail
        go_meet
        case rel => exact ⟨by rw [hp.out]; first | done | rfl, rfl⟩
      by_cases q3 : (x.m != p) = true
      rotate_left
      · replace q3 : (x.m != p) = false := by simpa using q3
        have hp := Kp.mk (show badF x v p = false by simp [badF, q0, q1, q2, q3])
        go_wp2_with fail
        go_meet
        case rel => exact ⟨by rw [hp.out]; first | done | rfl, rfl⟩
      have hp := Kp.mk (show badF x v p = true by simp [badF, q0, q1, q2, q3])
      go_wp2_with fail
      go_meet
      case rel => exact ⟨by rw [hp.out]; first | done | rfl, rfl⟩
    have hp := Kp.mk (show badF x v p = true by simp [badF, q0, q1])
    go_wp2_with fail
    go_meet
    case rel => exact ⟨by rw [hp.out]; first | done | rfl, rfl⟩
  case rest =>
    obtain ⟨rfl, rfl⟩ := hcut
    by_cases hb : badF x v p = true
    · have hp := Kp.mk (show fitsR x v p a b c = false by unfold fitsR; rw [hb]; rfl)
      rw [hb]
      clear hb
      go_wp2_with fail
      rw [hp.out]
      go_ret
      exact ⟨rfl, hB.out⟩
    replace hb : badF x v p = false := by simpa using hb
    rw [hb]
    have hb' := Kp.mk hb
    clear hb
    by_cases c0 : (offB a x.i0 x.b0 == 0) = true
    rotate_left
    · have c0' : (offB a x.i0 x.b0 == 0) = false := by simpa using c0
      have n0 : (bits .and .u8 (bits .xor .u8 a x.i0) x.b0 != 0) = true := by unfold offB at c0'; simp only [bne, c0', Bool.not_false]
      have hp := Kp.mk (show fitsR x v p a b c = false by unfold fitsR; rw [hb'.out, c0']; rfl)
      clear c0 c0'
      go_wp2_with fail
      refine wp_loop_rounds (0 + 1) ?_
      rw [rounds_succ]
      go_wp2_with fail
      go_quiet (fail)
      go_wp2_with fail
      rw [hp.out]
      go_ret
      exact ⟨rfl, by repeat first | exact hB.out | refine below_drewN ?_ _⟩
    by_cases c1 : (offB b x.i1 x.b1 == 0) = true
    rotate_left
    · have n0 : (bits .and .u8 (bits .xor .u8 a x.i0) x.b0 != 0) = false := by unfold offB at c0; simp only [bne, c0, Bool.not_true]
      have c1' : (offB b x.i1 x.b1 == 0) = false := by simpa using c1
      have n1 : (bits .and .u8 (bits .xor .u8 b x.i1) x.b1 != 0) = true := by unfold offB at c1'; simp only [bne, c1', Bool.not_false]
      have hp := Kp.mk (show fitsR x v p a b c = false by unfold fitsR; rw [hb'.out, c0, c1']; rfl)
      clear c0 c1 c1'
      go_wp2_with fail
      refine wp_loop_rounds (1 + 1) ?_
      rw [rounds_succ]
      go_wp2_with fail
      go_quiet (fail)
      go_wp2_with fail
      rw [rounds_succ]
      go_wp2_with fail
      go_quiet (fail)
      go_wp2_with fail
      rw [hp.out]
      go_ret
      exact ⟨rfl, by repeat first | exact hB.out | refine below_drewN ?_ _⟩
    by_cases c2 : (offB c x.i2 x.b2 == 0) = true
    rotate_left
    · have n0 : (bits .and .u8 (bits .xor .u8 a x.i0) x.b0 != 0) = false := by unfold offB at c0; simp only [bne, c0, Bool.not_true]
      have n1 : (bits .and .u8 (bits .xor .u8 b x.i1) x.b1 != 0) = false := by unfold offB at c1; simp only [bne, c1, Bool.not_true]
      have c2' : (offB c x.i2 x.b2 == 0) = false := by simpa using c2
      have n2 : (bits .and .u8 (bits .xor .u8 c x.i2) x.b2 != 0) = true := by unfold offB at c2'; simp only [bne, c2', Bool.not_false]
      have hp := Kp.mk (show fitsR x v p a b c = false by unfold fitsR; rw [hb'.out, c0, c1, c2']; rfl)
      clear c0 c1 c2 c2'
      go_wp2_with fail
      refine wp_loop_rounds (2 + 1) ?_
      rw [rounds_succ]
      go_wp2_with fail
      go_quiet (fail)
      go_wp2_with fail
      rw [rounds_succ]
      go_wp2_with fail
      go_quiet (fail)
      go_wp2_with fail
      rw [rounds_succ]
      go_wp2_with fail
      go_quiet (fail)
      go_wp2_with fail
      rw [hp.out]
      go_ret
      exact ⟨rfl, by repeat first | exact hB.out | refine below_drewN ?_ _⟩
    have n0 : (bits .and .u8 (bits .xor .u8 a x.i0) x.b0 != 0) = false := by unfold offB at c0; simp only [bne, c0, Bool.not_true]
    have n1 : (bits .and .u8 (bits .xor .u8 b x.i1) x.b1 != 0) = false := by unfold offB at c1; simp only [bne, c1, Bool.not_true]
    have n2 : (bits .and .u8 (bits .xor .u8 c x.i2) x.b2 != 0) = false := by unfold offB at c2; simp only [bne, c2, Bool.not_true]
    have hp := Kp.mk (show fitsR x v p a b c = true by unfold fitsR; rw [hb'.out, c0, c1, c2]; rfl)
    clear c0 c1 c2
    go_wp2_with fail
    refine wp_loop_rounds (3 + 1) ?_
    rw [rounds_succ]
    go_wp2_with fail
    go_quiet (fail)
    go_wp2_with fail
    rw [rounds_succ]
    go_wp2_with fail
    go_quiet (fail)
    go_wp2_with fail
    rw [rounds_succ]
    go_wp2_with fail
    go_quiet (fail)
    go_wp2_with fail
    rw [rounds_succ]
    go_wp2_with fail
    rw [hp.out]
    go_ret
    exact ⟨rfl, by repeat first | exact hB.out | refine below_drewN ?_ _⟩
set_option maxRecDepth 100000 in
set_option maxHeartbeats 4000000 in
theorem refCovers_any (x y : MaskV) (w : World) : Calls Try.prog 39 #[.agg #[.int .i64 x.v, .int .i64 x.m, .int .u8 x.b0, .int .u8 x.b1, .int .u8 x.b2, .int .u8 x.i0, .int .u8 x.i1, .int .u8 x.i2], .agg #[.int .i64 y.v, .int .i64 y.m, .int .u8 y.b0, .int .u8 y.b1, .int .u8 y.b2, .int .u8 y.i0, .int .u8 y.i1, .int .u8 y.i2]] w fun e w' => e = .returned (.bool (coversR x y)) ∧ Below w.heap.size w w' := by
  have hx : Vb 25 ((w.alloc (.cells #[.int .i64 x.v, .int .i64 x.m, .int .u8 x.b0, .int .u8 x.b1, .int .u8 x.b2, .int .u8 x.i0, .int .u8 x.i1, .int .u8 x.i2] 25)).alloc (.cells #[.int .i64 y.v, .int .i64 y.m, .int .u8 y.b0, .int .u8 y.b1, .int .u8 y.b2, .int .u8 y.i0, .int .u8 y.i1, .int .u8 y.i2] 25)) w.heap.size [.int .i64 x.v, .int .i64 x.m, .int .u8 x.b0, .int .u8 x.b1, .int .u8 x.b2, .int .u8 x.i0, .int .u8 x.i1, .int .u8 x.i2] := (Vb.new 25 w (mcl x)).alloc _
  have hy : Vb 25 ((w.alloc (.cells #[.int .i64 x.v, .int .i64 x.m, .int .u8 x.b0, .int .u8 x.b1, .int .u8 x.b2, .int .u8 x.i0, .int .u8 x.i1, .int .u8 x.i2] 25)).alloc (.cells #[.int .i64 y.v, .int .i64 y.m, .int .u8 y.b0, .int .u8 y.b1, .int .u8 y.b2, .int .u8 y.i0, .int .u8 y.i1, .int .u8 y.i2] 25)) (w.heap.size + 1) [.int .i64 y.v, .int .i64 y.m, .int .u8 y.b0, .int .u8 y.b1, .int .u8 y.b2, .int .u8 y.i0, .int .u8 y.i1, .int .u8 y.i2] := by have := Vb.new 25 (w.alloc (.cells #[.int .i64 x.v, .int .i64 x.m, .int .u8 x.b0, .int .u8 x.b1, .int .u8 x.b2, .int .u8 x.i0, .int .u8 x.i1, .int .u8 x.i2] 25)) (mcl y); simpa [mcl] using this
  have hB := Kp.mk (below_two w (.cells #[.int .i64 x.v, .int .i64 x.m, .int .u8 x.b0, .int .u8 x.b1, .int .u8 x.b2, .int .u8 x.i0, .int .u8 x.i1, .int .u8 x.i2] 25) (.cells #[.int .i64 y.v, .int .i64 y.m, .int .u8 y.b0, .int .u8 y.b1, .int .u8 y.b2, .int .u8 y.i0, .int .u8 y.i1, .int .u8 y.i2] 25))
  go_enter Try.func39, Try.ntmps39
  go_upto_region 1 with fail
  generalize (w.alloc (.cells #[.int .i64 x.v, .int .i64 x.m, .int .u8 x.b0, .int .u8 x.b1, .int .u8 x.b2, .int .u8 x.i0, .int .u8 x.i1, .int .u8 x.i2] 25)).alloc (.cells #[.int .i64 y.v, .int .i64 y.m, .int .u8 y.b0, .int .u8 y.b1, .int .u8 y.b2, .int .u8 y.i0, .int .u8 y.i1, .int .u8 y.i2] 25) = w0 at *
  obtain ⟨d0, d1, d2, d3, d4, d5, d6, d7⟩ := hx.c8
  obtain ⟨e0, e1, e2, e3, e4, e5, e6, e7⟩ := hy.c8
  clear hx hy
  go_cut [27] from 6 (fun v' wx => v' = .bool (badF x y.v y.m) ∧ wx = w0)
  case first => as_aux_lemma =>
    by_cases q0 : (x.v != 0) = true
    rotate_left
    · replace q0 : (x.v != 0) = false := by simpa using q0
      by_cases q1 : (x.m != -1) = true
      rotate_left
      · replace q1 : (x.m != -1) = false := by simpa using q1
        have hp := Kp.mk (show badF x y.v y.m = false by simp [badF, q0, q1])
        go_wp2_with fail
        go_meet
        case rel => exact ⟨by rw [hp.out]; first | done | rfl, rfl⟩
      by_cases q2 : (x.m != y.m) = true
      rotate_left
      · replace q2 : (x.m != y.m) = false := by simpa using q2
        have hp := Kp.mk (show badF x y.v y.m = false by simp [badF, q0, q1, q2])
        go_wp2_with fail
        go_meet
        case rel => exact ⟨by rw [hp.out]; first | done | rfl, rfl⟩
      have hp := Kp.mk (show badF x y.v y.m = true by simp [badF, q0, q1, q2])
      go_wp2_with fail
      go_meet
      case rel => exact ⟨by rw [hp.out]; first | done | rfl, rfl⟩
    by_cases q1 : (x.v != y.v) = true
    rotate_left
    · replace q1 : (x.v != y.v) = false := by simpa using q1
      by_cases q2 : (x.m != -1) = true
      rotate_left
      · replace q2 : (x.m != -1) = false := by simpa using q2
        have hp := Kp.mk (show badF x y.v y.m = false by simp [badF, q0, q1, q2])
        go_wp2_with fail
        go_meet
        case rel => exact ⟨by rw [hp.out]; first | done | rfl, rfl⟩
      by_cases q3 : (x.m != y.m) = true
      rotate_left
      · replace q3 : (x.m != y.m) = false := by simpa using q3
        have hp := Kp.mk (show badF x y.v y.m = false by simp [badF, q0, q1, q2, q3])
        go_wp2_with fail
        go_meet
        case rel => exact ⟨by rw [hp.out]; first | done | rfl, rfl⟩
      have hp := Kp.mk (show badF x y.v y.m = true by simp [badF, q0, q1, q2, q3])
      go_wp2_with fail
      go_meet
      case rel => exact ⟨by rw [hp.out]; first | done | rfl, rfl⟩
    have hp := Kp.mk (show badF x y.v y.m = true by simp [badF, q0, q1])
    go_wp2_with fail
    go_meet
    case rel => exact ⟨by rw [hp.out]; first | done | rfl, rfl⟩
  case rest =>
    obtain ⟨rfl, rfl⟩ := hcut
    by_cases hb : badF x y.v y.m = true
    · have hp := Kp.mk (show coversR x y = false by unfold coversR; rw [hb]; rfl)
      rw [hb]
      clear hb
      go_wp2_with fail
      rw [hp.out]
      go_ret
      exact ⟨rfl, hB.out⟩
    replace hb : badF x y.v y.m = false := by simpa using hb
    rw [hb]
    have hb' := Kp.mk hb
    clear hb
    by_cases g00 : (bits .andNot .u8 x.b0 y.b0 != 0) = true
    · have c0 : cov1 x.b0 y.b0 x.i0 y.i0 = false := by have h := g00; unfold cov1; simp at h; simp [h]
      have hp := Kp.mk (show coversR x y = false by unfold coversR; rw [hb'.out, c0]; rfl)
      clear c0
      go_wp2_with fail
      refine wp_loop_rounds (0 + 1) ?_
      rw [rounds_succ]
      go_wp2_with fail
      go_quiet (fail)
      go_wp2_with fail
      rw [hp.out]
      go_ret
      exact ⟨rfl, by repeat first | exact hB.out | refine below_drewN ?_ _⟩
    replace g00 : (bits .andNot .u8 x.b0 y.b0 != 0) = false := by simpa using g00
    by_cases g01 : (bits .and .u8 (bits .xor .u8 x.i0 y.i0) x.b0 != 0) = true
    · have c0 : cov1 x.b0 y.b0 x.i0 y.i0 = false := by have h := g01; unfold cov1 offB; simp at h; simp [h]
      have hp := Kp.mk (show coversR x y = false by unfold coversR; rw [hb'.out, c0]; rfl)
      clear c0
      go_wp2_with fail
      refine wp_loop_rounds (0 + 1) ?_
      rw [rounds_succ]
      go_wp2_with fail
      go_quiet (fail)
      go_wp2_with fail
      rw [hp.out]
      go_ret
      exact ⟨rfl, by repeat first | exact hB.out | refine below_drewN ?_ _⟩
    replace g01 : (bits .and .u8 (bits .xor .u8 x.i0 y.i0) x.b0 != 0) = false := by simpa using g01
    have c0 : cov1 x.b0 y.b0 x.i0 y.i0 = true := by have h := g00; have h2 := g01; unfold cov1 offB; simp at h h2; simp [h, h2]
    by_cases g10 : (bits .andNot .u8 x.b1 y.b1 != 0) = true
    · have c1 : cov1 x.b1 y.b1 x.i1 y.i1 = false := by have h := g10; unfold cov1; simp at h; simp [h]
      have hp := Kp.mk (show coversR x y = false by unfold coversR; rw [hb'.out, c0, c1]; rfl)
      clear c0 c1
      go_wp2_with fail
      refine wp_loop_rounds (1 + 1) ?_
      rw [rounds_succ]
      go_wp2_with fail
      go_quiet (fail)
      go_wp2_with fail
      rw [rounds_succ]
      go_wp2_with fail
      go_quiet (fail)
      go_wp2_with fail
      rw [hp.out]
      go_ret
      exact ⟨rfl, by repeat first | exact hB.out | refine below_drewN ?_ _⟩
    replace g10 : (bits .andNot .u8 x.b1 y.b1 != 0) = false := by simpa using g10
    by_cases g11 : (bits .and .u8 (bits .xor .u8 x.i1 y.i1) x.b1 != 0) = true
    · have c1 : cov1 x.b1 y.b1 x.i1 y.i1 = false := by have h := g11; unfold cov1 offB; simp at h; simp [h]
      have hp := Kp.mk (show coversR x y = false by unfold coversR; rw [hb'.out, c0, c1]; rfl)
      clear c0 c1
      go_wp2_with fail
      refine wp_loop_rounds (1 + 1) ?_
      rw [rounds_succ]
      go_wp2_with fail
      go_quiet (fail)
      go_wp2_with fail
      rw [rounds_succ]
      go_wp2_with fail
      go_quiet (fail)
      go_wp2_with fail
      rw [hp.out]
      go_ret
      exact ⟨rfl, by repeat first | exact hB.out | refine below_drewN ?_ _⟩
    replace g11 : (bits .and .u8 (bits .xor .u8 x.i1 y.i1) x.b1 != 0) = false := by simpa using g11
    have c1 : cov1 x.b1 y.b1 x.i1 y.i1 = true := by have h := g10; have h2 := g11; unfold cov1 offB; simp at h h2; simp [h, h2]
    by_cases g20 : (bits .andNot .u8 x.b2 y.b2 != 0) = true
    · have c2 : cov1 x.b2 y.b2 x.i2 y.i2 = false := by have h := g20; unfold cov1; simp at h; simp [h]
      have hp := Kp.mk (show coversR x y = false by unfold coversR; rw [hb'.out, c0, c1, c2]; rfl)
      clear c0 c1 c2
      go_wp2_with fail
      refine wp_loop_rounds (2 + 1) ?_
      rw [rounds_succ]
      go_wp2_with fail
      go_quiet (fail)
      go_wp2_with fail
      rw [rounds_succ]
      go_wp2_with fail
      go_quiet (fail)
      go_wp2_with fail
      rw [rounds_succ]
      go_wp2_with fail
      go_quiet (fail)
      go_wp2_with fail
      rw [hp.out]
      go_ret
      exact ⟨rfl, by repeat first | exact hB.out | refine below_drewN ?_ _⟩
    replace g20 : (bits .andNot .u8 x.b2 y.b2 != 0) = false := by simpa using g20
    by_cases g21 : (bits .and .u8 (bits .xor .u8 x.i2 y.i2) x.b2 != 0) = true
    · have c2 : cov1 x.b2 y.b2 x.i2 y.i2 = false := by have h := g21; unfold cov1 offB; simp at h; simp [h]
      have hp := Kp.mk (show coversR x y = false by unfold coversR; rw [hb'.out, c0, c1, c2]; rfl)
      clear c0 c1 c2
      go_wp2_with fail
      refine wp_loop_rounds (2 + 1) ?_
      rw [rounds_succ]
      go_wp2_with fail
      go_quiet (fail)
      go_wp2_with fail
      rw [rounds_succ]
      go_wp2_with fail
      go_quiet (fail)
      go_wp2_with fail
      rw [rounds_succ]
      go_wp2_with fail
      go_quiet (fail)
      go_wp2_with fail
      rw [hp.out]
      go_ret
      exact ⟨rfl, by repeat first | exact hB.out | refine below_drewN ?_ _⟩
    replace g21 : (bits .and .u8 (bits .xor .u8 x.i2 y.i2) x.b2 != 0) = false := by simpa using g21
    have c2 : cov1 x.b2 y.b2 x.i2 y.i2 = true := by have h := g20; have h2 := g21; unfold cov1 offB; simp at h h2; simp [h, h2]
    have hp := Kp.mk (show coversR x y = true by unfold coversR; rw [hb'.out, c0, c1, c2]; rfl)
    clear c0 c1 c2
    go_wp2_with fail
    refine wp_loop_rounds (3 + 1) ?_
    rw [rounds_succ]
    go_wp2_with fail
    go_quiet (fail)
    go_wp2_with fail
    rw [rounds_succ]
    go_wp2_with fail
    go_quiet (fail)
    go_wp2_with fail
    rw [rounds_succ]
    go_wp2_with fail
    go_quiet (fail)
    go_wp2_with fail
    rw [rounds_succ]
    go_wp2_with fail
    rw [hp.out]
    go_ret
    exact ⟨rfl, by repeat first | exact hB.out | refine below_drewN ?_ _⟩

end Go.Proofs.Ytaaflgaeeldkhaa.Oct
