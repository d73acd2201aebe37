/- Contracts of layer 7: the document's Fits, Meet, Covers, Only. Plain facts of layer 7: what masks fit, bit by bit. -/
import Derived.Test.YtcolklkjaifplaaMskC
import Derived.Deep.CutRange
import Derived.Test.YtcolklkjaifplaaBits
namespace Go.Proofs.Ytcolklkjaifplaa.Oct
open Go.RowKit
set_option linter.unusedVariables false
set_option linter.unusedSimpArgs false

def badF (x : MaskV) (v p : Int) : Bool := ((x.v != 0) && (x.v != v)) || ((x.m != -1) && (x.m != p))
def badM (x y : MaskV) : Bool := ((x.v != 0) && ((y.v != 0) && (x.v != y.v))) || ((x.m != -1) && ((y.m != -1) && (x.m != y.m)))
/-- Bits of a header that are unlike. -/
def offB (h i b : Int) : Int := bits .and .u8 (bits .xor .u8 h i) b
def fitsR (x : MaskV) (v p a b c : Int) : Bool := !badF x v p && ((offB a x.i0 x.b0 == 0) && ((offB b x.i1 x.b1 == 0) && (offB c x.i2 x.b2 == 0)))
def cov1 (b b' i i' : Int) : Bool := (bits .andNot .u8 b b' == 0) && (offB i i' b == 0)
def coversR (x y : MaskV) : Bool := !badF x y.v y.m && (cov1 x.b0 y.b0 x.i0 y.i0 && (cov1 x.b1 y.b1 x.i1 y.i1 && cov1 x.b2 y.b2 x.i2 y.i2))
theorem badM_eith (x y : MaskV) : badM x y = !(eithB x.v y.v 0 && eithB x.m y.m (-1)) := by
  have one : ∀ a b n : Int, eithB a b n = !((a != n) && ((b != n) && (a != b))) := fun a b n => by
    unfold eithB
    by_cases h1 : a = n
    · simp [h1]
    · by_cases h2 : b = n
      · simp [h1, h2]
      · by_cases h3 : b = a
        · simp [h3]
        · have h4 : ¬ a = b := fun e => h3 e.symm
          simp [h1, h2, h3, h4]
  rw [one, one]
  unfold badM
  cases (x.v != 0 && (y.v != 0 && x.v != y.v)) <;> cases (x.m != -1 && (y.m != -1 && x.m != y.m)) <;> rfl
theorem meetB_bad {x y : MaskV} (h : badM x y = true) : meetB x y = false := by
  rw [badM_eith] at h
  unfold meetB
  cases h1 : eithB x.v y.v 0 <;> cases h2 : eithB x.m y.m (-1) <;> simp [h1, h2] at h ⊢
theorem meetB_good {x y : MaskV} (h : badM x y = false) : meetB x y = likeB x y := by
  rw [badM_eith] at h
  unfold meetB
  cases h1 : eithB x.v y.v 0 <;> cases h2 : eithB x.m y.m (-1) <;> simp [h1, h2] at h ⊢

set_option maxRecDepth 100000 in
set_option maxHeartbeats 4000000 in
theorem refFits_any (x : MaskV) (v p a b c : Int) (w : World) : Calls Try.prog 94 #[.agg #[.int .i64 x.v, .int .i64 x.m, .int .u8 x.b0, .int .u8 x.b1, .int .u8 x.b2, .int .u8 x.i0, .int .u8 x.i1, .int .u8 x.i2], .int .i64 v, .int .i64 p, .agg #[.int .u8 a, .int .u8 b, .int .u8 c]] w fun e w' => e = .returned (.bool (fitsR x v p a b c)) ∧ Below w.heap.size w w' := by
  have hx : Vb 28 ((w.alloc (.cells #[.int .i64 x.v, .int .i64 x.m, .int .u8 x.b0, .int .u8 x.b1, .int .u8 x.b2, .int .u8 x.i0, .int .u8 x.i1, .int .u8 x.i2] 28)).alloc (.cells #[.int .u8 a, .int .u8 b, .int .u8 c] 26)) w.heap.size [.int .i64 x.v, .int .i64 x.m, .int .u8 x.b0, .int .u8 x.b1, .int .u8 x.b2, .int .u8 x.i0, .int .u8 x.i1, .int .u8 x.i2] := (Vb.new 28 w (mcl x)).alloc _
  have hy : Vb 26 ((w.alloc (.cells #[.int .i64 x.v, .int .i64 x.m, .int .u8 x.b0, .int .u8 x.b1, .int .u8 x.b2, .int .u8 x.i0, .int .u8 x.i1, .int .u8 x.i2] 28)).alloc (.cells #[.int .u8 a, .int .u8 b, .int .u8 c] 26)) (w.heap.size + 1) [.int .u8 a, .int .u8 b, .int .u8 c] := by have := Vb.new 26 (w.alloc (.cells #[.int .i64 x.v, .int .i64 x.m, .int .u8 x.b0, .int .u8 x.b1, .int .u8 x.b2, .int .u8 x.i0, .int .u8 x.i1, .int .u8 x.i2] 28)) [.int .u8 a, .int .u8 b, .int .u8 c]; simpa [mcl] using this
  have hB := Kp.mk (below_two w (.cells #[.int .i64 x.v, .int .i64 x.m, .int .u8 x.b0, .int .u8 x.b1, .int .u8 x.b2, .int .u8 x.i0, .int .u8 x.i1, .int .u8 x.i2] 28) (.cells #[.int .u8 a, .int .u8 b, .int .u8 c] 26))
  go_enter Try.func94, Try.ntmps94
  go_upto_region 1 with fail
  generalize (w.alloc (.cells #[.int .i64 x.v, .int .i64 x.m, .int .u8 x.b0, .int .u8 x.b1, .int .u8 x.b2, .int .u8 x.i0, .int .u8 x.i1, .int .u8 x.i2] 28)).alloc (.cells #[.int .u8 a, .int .u8 b, .int .u8 c] 26) = w0 at *
  obtain ⟨d0, d1, d2, d3, d4, d5, d6, d7⟩ := hx.c8
  have e0 := hy.cell 0 rfl
  have e1 := hy.cell 1 rfl
  have e2 := hy.cell 2 rfl
  clear hx hy
  go_cut [29] from 10 (fun v' wx => v' = .bool (badF x v p) ∧ wx = w0)
  case first => as_aux_lemma =>
    by_cases q0 : (x.v != 0) = true
    rotate_left
    · replace q0 : (x.v != 0) = false := by simpa using q0
      by_cases q1 : (x.m != -1) = true
      rotate_left
      · replace q1 : (x.m != -1) = false := by simpa using q1
        have hp := Kp.mk (show badF x v p = false by simp [badF, q0, q1])
        go_wp2_with fail
        go_meet
        case rel => exact ⟨by rw [hp.out]; first | done | rfl, rfl⟩
      by_cases q2 : (x.m != p) = true
      rotate_left
      · replace q2 : (x.m != p) = false := by simpa using q2
        have hp := Kp.mk (show badF x v p = false by simp [badF, q0, q1, q2])
        go_wp2_with fail
        go_meet
        case rel => exact ⟨by rw [hp.out]; first | done | rfl, rfl⟩
      have hp := Kp.mk (show badF x v p = true by simp [badF, q0, q1, q2])
      go_wp2_with fail
      go_meet
      case rel => exact ⟨by rw [hp.out]; first | done | rfl, rfl⟩
    by_cases q1 : (x.v != v) = true
    rotate_left
    · replace q1 : (x.v != v) = false := by simpa using q1
      by_cases q2 : (x.m != -1) = true
      rotate_left
      · replace q2 : (x.m != -1) = false := by simpa using q2
        have hp := Kp.mk (show badF x v p = false by simp [badF, q0, q1, q2])
        go_wp2_with fail
        go_meet
        case rel => exact ⟨by rw [hp.out]; first | done | rfl, rfl⟩
      by_cases q3 : (x.m != p) = true
      rotate_left
      · replace q3 : (x.m != p) = false := by simpa using q3
        have hp := Kp.mk (show badF x v p = false by simp [badF, q0, q1, q2, q3])
        go_wp2_with fail
        go_meet
        case rel => exact ⟨by rw [hp.out]; first | done | rfl, rfl⟩
      have hp := Kp.mk (show badF x v p = true by simp [badF, q0, q1, q2, q3])
      go_wp2_with fail
      go_meet
      case rel => exact ⟨by rw [hp.out]; first | done | rfl, rfl⟩
    have hp := Kp.mk (show badF x v p = true by simp [badF, q0, q1])
    go_wp2_with fail
    go_meet
    case rel => exact ⟨by rw [hp.out]; first | done | rfl, rfl⟩
  case rest =>
    obtain ⟨rfl, rfl⟩ := hcut
    by_cases hb : badF x v p = true
    · have hp := Kp.mk (show fitsR x v p a b c = false by unfold fitsR; rw [hb]; rfl)
      rw [hb]
      clear hb
      go_wp2_with fail
      rw [hp.out]
      go_ret
      exact ⟨rfl, hB.out⟩
    replace hb : badF x v p = false := by simpa using hb
    rw [hb]
    have hb' := Kp.mk hb
    clear hb
    by_cases c0 : (offB a x.i0 x.b0 == 0) = true
    rotate_left
    · have c0' : (offB a x.i0 x.b0 == 0) = false := by simpa using c0
      have n0 : (bits .and .u8 (bits .xor .u8 a x.i0) x.b0 != 0) = true := by unfold offB at c0'; simp only [bne, c0', Bool.not_false]
      have hp := Kp.mk (show fitsR x v p a b c = false by unfold fitsR; rw [hb'.out, c0']; rfl)
      clear c0 c0'
      go_wp2_with fail
      refine wp_loop_rounds (0 + 1) ?_
      rw [rounds_succ]
      go_wp2_with fail
      go_quiet (fail)
      go_wp2_with fail
      rw [hp.out]
      go_ret
      exact ⟨rfl, by repeat first | exact hB.out | refine below_drewN ?_ _⟩
    by_cases c1 : (offB b x.i1 x.b1 == 0) = true
    rotate_left
    · have n0 : (bits .and .u8 (bits .xor .u8 a x.i0) x.b0 != 0) = false := by unfold offB at c0; simp only [bne, c0, Bool.not_true]
      have c1' : (offB b x.i1 x.b1 == 0) = false := by simpa using c1
      have n1 : (bits .and .u8 (bits .xor .u8 b x.i1) x.b1 != 0) = true := by unfold offB at c1'; simp only [bne, c1', Bool.not_false]
      have hp := Kp.mk (show fitsR x v p a b c = false by unfold fitsR; rw [hb'.out, c0, c1']; rfl)
      clear c0 c1 c1'
      go_wp2_with fail
      refine wp_loop_rounds (1 + 1) ?_
      rw [rounds_succ]
      go_wp2_with fail
      go_quiet (fail)
      go_wp2_with fail
      rw [rounds_succ]
      go_wp2_with fail
      go_quiet (fail)
      go_wp2_with fail
      rw [hp.out]
      go_ret
      exact ⟨rfl, by repeat first | exact hB.out | refine below_drewN ?_ _⟩
    by_cases c2 : (offB c x.i2 x.b2 == 0) = true
    rotate_left
    · have n0 : (bits .and .u8 (bits .xor .u8 a x.i0) x.b0 != 0) = false := by unfold offB at c0; simp only [bne, c0, Bool.not_true]
      have n1 : (bits .and .u8 (bits .xor .u8 b x.i1) x.b1 != 0) = false := by unfold offB at c1; simp only [bne, c1, Bool.not_true]
      have c2' : (offB c x.i2 x.b2 == 0) = false := by simpa using c2
      have n2 : (bits .and .u8 (bits .xor .u8 c x.i2) x.b2 != 0) = true := by unfold offB at c2'; simp only [bne, c2', Bool.not_false]
      have hp := Kp.mk (show fitsR x v p a b c = false by unfold fitsR; rw [hb'.out, c0, c1, c2']; rfl)
      clear c0 c1 c2 c2'
      go_wp2_with fail
      refine wp_loop_rounds (2 + 1) ?_
      rw [rounds_succ]
      go_wp2_with fail
      go_quiet (fail)
      go_wp2_with fail
      rw [rounds_succ]
      go_wp2_with fail
      go_quiet (fail)
      go_wp2_with fail
      rw [rounds_succ]
      go_wp2_with fail
      go_quiet (fail)
      go_wp2_with fail
      rw [hp.out]
      go_ret
      exact ⟨rfl, by repeat first | exact hB.out | refine below_drewN ?_ _⟩
    have n0 : (bits .and .u8 (bits .xor .u8 a x.i0) x.b0 != 0) = false := by unfold offB at c0; simp only [bne, c0, Bool.not_true]
    have n1 : (bits .and .u8 (bits .xor .u8 b x.i1) x.b1 != 0) = false := by unfold offB at c1; simp only [bne, c1, Bool.not_true]
    have n2 : (bits .and .u8 (bits .xor .u8 c x.i2) x.b2 != 0) = false := by unfold offB at c2; simp only [bne, c2, Bool.not_true]
    have hp := Kp.mk (show fitsR x v p a b c = true by unfold fitsR; rw [hb'.out, c0, c1, c2]; rfl)
    clear c0 c1 c2
    go_wp2_with fail
    refine wp_loop_rounds (3 + 1) ?_
    rw [rounds_succ]
    go_wp2_with fail
    go_quiet (fail)
    go_wp2_with fail
    rw [rounds_succ]
    go_wp2_with fail
    go_quiet (fail)
    go_wp2_with fail
    rw [rounds_succ]
    go_wp2_with fail
    go_quiet (fail)
    go_wp2_with fail
    rw [rounds_succ]
    go_wp2_with fail
    rw [hp.out]
    go_ret
    exact ⟨rfl, by repeat first | exact hB.out | refine below_drewN ?_ _⟩
set_option maxRecDepth 100000 in
set_option maxHeartbeats 4000000 in
theorem refCovers_any (x y : MaskV) (w : World) : Calls Try.prog 105 #[.agg #[.int .i64 x.v, .int .i64 x.m, .int .u8 x.b0, .int .u8 x.b1, .int .u8 x.b2, .int .u8 x.i0, .int .u8 x.i1, .int .u8 x.i2], .agg #[.int .i64 y.v, .int .i64 y.m, .int .u8 y.b0, .int .u8 y.b1, .int .u8 y.b2, .int .u8 y.i0, .int .u8 y.i1, .int .u8 y.i2]] w fun e w' => e = .returned (.bool (coversR x y)) ∧ Below w.heap.size w w' := by
  have hx : Vb 28 ((w.alloc (.cells #[.int .i64 x.v, .int .i64 x.m, .int .u8 x.b0, .int .u8 x.b1, .int .u8 x.b2, .int .u8 x.i0, .int .u8 x.i1, .int .u8 x.i2] 28)).alloc (.cells #[.int .i64 y.v, .int .i64 y.m, .int .u8 y.b0, .int .u8 y.b1, .int .u8 y.b2, .int .u8 y.i0, .int .u8 y.i1, .int .u8 y.i2] 28)) w.heap.size [.int .i64 x.v, .int .i64 x.m, .int .u8 x.b0, .int .u8 x.b1, .int .u8 x.b2, .int .u8 x.i0, .int .u8 x.i1, .int .u8 x.i2] := (Vb.new 28 w (mcl x)).alloc _
  have hy : Vb 28 ((w.alloc (.cells #[.int .i64 x.v, .int .i64 x.m, .int .u8 x.b0, .int .u8 x.b1, .int .u8 x.b2, .int .u8 x.i0, .int .u8 x.i1, .int .u8 x.i2] 28)).alloc (.cells #[.int .i64 y.v, .int .i64 y.m, .int .u8 y.b0, .int .u8 y.b1, .int .u8 y.b2, .int .u8 y.i0, .int .u8 y.i1, .int .u8 y.i2] 28)) (w.heap.size + 1) [.int .i64 y.v, .int .i64 y.m, .int .u8 y.b0, .int .u8 y.b1, .int .u8 y.b2, .int .u8 y.i0, .int .u8 y.i1, .int .u8 y.i2] := by have := Vb.new 28 (w.alloc (.cells #[.int .i64 x.v, .int .i64 x.m, .int .u8 x.b0, .int .u8 x.b1, .int .u8 x.b2, .int .u8 x.i0, .int .u8 x.i1, .int .u8 x.i2] 28)) (mcl y); simpa [mcl] using this
  have hB := Kp.mk (below_two w (.cells #[.int .i64 x.v, .int .i64 x.m, .int .u8 x.b0, .int .u8 x.b1, .int .u8 x.b2, .int .u8 x.i0, .int .u8 x.i1, .int .u8 x.i2] 28) (.cells #[.int .i64 y.v, .int .i64 y.m, .int .u8 y.b0, .int .u8 y.b1, .int .u8 y.b2, .int .u8 y.i0, .int .u8 y.i1, .int .u8 y.i2] 28))
  go_enter Try.func105, Try.ntmps105
  go_upto_region 1 with fail
  generalize (w.alloc (.cells #[.int .i64 x.v, .int .i64 x.m, .int .u8 x.b0, .int .u8 x.b1, .int .u8 x.b2, .int .u8 x.i0, .int .u8 x.i1, .int .u8 x.i2] 28)).alloc (.cells #[.int .i64 y.v, .int .i64 y.m, .int .u8 y.b0, .int .u8 y.b1, .int .u8 y.b2, .int .u8 y.i0, .int .u8 y.i1, .int .u8 y.i2] 28) = w0 at *
  obtain ⟨d0, d1, d2, d3, d4, d5, d6, d7⟩ := hx.c8
  obtain ⟨e0, e1, e2, e3, e4, e5, e6, e7⟩ := hy.c8
  clear hx hy
  go_cut [27] from 6 (fun v' wx => v' = .bool (badF x y.v y.m) ∧ wx = w0)
  case first => as_aux_lemma =>
    by_cases q0 : (x.v != 0) = true
    rotate_left
    · replace q0 : (x.v != 0) = false := by simpa using q0
      by_cases q1 : (x.m != -1) = true
      rotate_left
      · replace q1 : (x.m != -1) = false := by simpa using q1
        have hp := Kp.mk (show badF x y.v y.m = false by simp [badF, q0, q1])
        go_wp2_with fail
        go_meet
        case rel => exact ⟨by rw [hp.out]; first | done | rfl, rfl⟩
      by_cases q2 : (x.m != y.m) = true
      rotate_left
      · replace q2 : (x.m != y.m) = false := by simpa using q2
        have hp := Kp.mk (show badF x y.v y.m = false by simp [badF, q0, q1, q2])
        go_wp2_with fail
        go_meet
        case rel => exact ⟨by rw [hp.out]; first | done | rfl, rfl⟩
      have hp := Kp.mk (show badF x y.v y.m = true by simp [badF, q0, q1, q2])
      go_wp2_with fail
      go_meet
      case rel => exact ⟨by rw [hp.out]; first | done | rfl, rfl⟩
    by_cases q1 : (x.v != y.v) = true
    rotate_left
    · replace q1 : (x.v != y.v) = false := by simpa using q1
      by_cases q2 : (x.m != -1) = true
      rotate_left
      · replace q2 : (x.m != -1) = false := by simpa using q2
        have hp := Kp.mk (show badF x y.v y.m = false by simp [badF, q0, q1, q2])
        go_wp2_with fail
        go_meet
        case rel => exact ⟨by rw [hp.out]; first | done | rfl, rfl⟩
      by_cases q3 : (x.m != y.m) = true
      rotate_left
      · replace q3 : (x.m != y.m) = false := by simpa using q3
        have hp := Kp.mk (show badF x y.v y.m = false by simp [badF, q0, q1, q2, q3])
        go_wp2_with fail
        go_meet
        case rel => exact ⟨by rw [hp.out]; first | done | rfl, rfl⟩
      have hp := Kp.mk (show badF x y.v y.m = true by simp [badF, q0, q1, q2, q3])
      go_wp2_with fail
      go_meet
      case rel => exact ⟨by rw [hp.out]; first | done | rfl, rfl⟩
    have hp := Kp.mk (show badF x y.v y.m = true by simp [badF, q0, q1])
    go_wp2_with fail
    go_meet
    case rel => exact ⟨by rw [hp.out]; first | done | rfl, rfl⟩
  case rest =>
    obtain ⟨rfl, rfl⟩ := hcut
    by_cases hb : badF x y.v y.m = true
    · have hp := Kp.mk (show coversR x y = false by unfold coversR; rw [hb]; rfl)
      rw [hb]
      clear hb
      go_wp2_with fail
      rw [hp.out]
      go_ret
      exact ⟨rfl, hB.out⟩
    replace hb : badF x y.v y.m = false := by simpa using hb
    rw [hb]
    have hb' := Kp.mk hb
    clear hb
    by_cases g00 : (bits .andNot .u8 x.b0 y.b0 != 0) = true
    · have c0 : cov1 x.b0 y.b0 x.i0 y.i0 = false := by have h := g00; unfold cov1; simp at h; simp [h]
      have hp := Kp.mk (show coversR x y = false by unfold coversR; rw [hb'.out, c0]; rfl)
      clear c0
      go_wp2_with fail
      refine wp_loop_rounds (0 + 1) ?_
      rw [rounds_succ]
      go_wp2_with fail
      go_quiet (fail)
      go_wp2_with fail
      rw [hp.out]
      go_ret
      exact ⟨rfl, by repeat first | exact hB.out | refine below_drewN ?_ _⟩
    replace g00 : (bits .andNot .u8 x.b0 y.b0 != 0) = false := by simpa using g00
    by_cases g01 : (bits .and .u8 (bits .xor .u8 x.i0 y.i0) x.b0 != 0) = true
    · have c0 : cov1 x.b0 y.b0 x.i0 y.i0 = false := by have h := g01; unfold cov1 offB; simp at h; simp [h]
      have hp := Kp.mk (show coversR x y = false by unfold coversR; rw [hb'.out, c0]; rfl)
      clear c0
      go_wp2_with fail
      refine wp_loop_rounds (0 + 1) ?_
      rw [rounds_succ]
      go_wp2_with fail
      go_quiet (fail)
      go_wp2_with fail
      rw [hp.out]
      go_ret
      exact ⟨rfl, by repeat first | exact hB.out | refine below_drewN ?_ _⟩
    replace g01 : (bits .and .u8 (bits .xor .u8 x.i0 y.i0) x.b0 != 0) = false := by simpa using g01
    have c0 : cov1 x.b0 y.b0 x.i0 y.i0 = true := by have h := g00; have h2 := g01; unfold cov1 offB; simp at h h2; simp [h, h2]
    by_cases g10 : (bits .andNot .u8 x.b1 y.b1 != 0) = true
    · have c1 : cov1 x.b1 y.b1 x.i1 y.i1 = false := by have h := g10; unfold cov1; simp at h; simp [h]
      have hp := Kp.mk (show coversR x y = false by unfold coversR; rw [hb'.out, c0, c1]; rfl)
      clear c0 c1
      go_wp2_with fail
      refine wp_loop_rounds (1 + 1) ?_
      rw [rounds_succ]
      go_wp2_with fail
      go_quiet (fail)
      go_wp2_with fail
      rw [rounds_succ]
      go_wp2_with fail
      go_quiet (fail)
      go_wp2_with fail
      rw [hp.out]
      go_ret
      exact ⟨rfl, by repeat first | exact hB.out | refine below_drewN ?_ _⟩
    replace g10 : (bits .andNot .u8 x.b1 y.b1 != 0) = false := by simpa using g10
    by_cases g11 : (bits .and .u8 (bits .xor .u8 x.i1 y.i1) x.b1 != 0) = true
    · have c1 : cov1 x.b1 y.b1 x.i1 y.i1 = false := by have h := g11; unfold cov1 offB; simp at h; simp [h]
      have hp := Kp.mk (show coversR x y = false by unfold coversR; rw [hb'.out, c0, c1]; rfl)
      clear c0 c1
      go_wp2_with fail
      refine wp_loop_rounds (1 + 1) ?_
      rw [rounds_succ]
      go_wp2_with fail
      go_quiet (fail)
      go_wp2_with fail
      rw [rounds_succ]
      go_wp2_with fail
      go_quiet (fail)
      go_wp2_with fail
      rw [hp.out]
      go_ret
      exact ⟨rfl, by repeat first | exact hB.out | refine below_drewN ?_ _⟩
    replace g11 : (bits .and .u8 (bits .xor .u8 x.i1 y.i1) x.b1 != 0) = false := by simpa using g11
    have c1 : cov1 x.b1 y.b1 x.i1 y.i1 = true := by have h := g10; have h2 := g11; unfold cov1 offB; simp at h h2; simp [h, h2]
    by_cases g20 : (bits .andNot .u8 x.b2 y.b2 != 0) = true
    · have c2 : cov1 x.b2 y.b2 x.i2 y.i2 = false := by have h := g20; unfold cov1; simp at h; simp [h]
      have hp := Kp.mk (show coversR x y = false by unfold coversR; rw [hb'.out, c0, c1, c2]; rfl)
      clear c0 c1 c2
      go_wp2_with fail
      refine wp_loop_rounds (2 + 1) ?_
      rw [rounds_succ]
      go_wp2_with fail
      go_quiet (fail)
      go_wp2_with fail
      rw [rounds_succ]
      go_wp2_with fail
      go_quiet (fail)
      go_wp2_with fail
      rw [rounds_succ]
      go_wp2_with fail
      go_quiet (fail)
      go_wp2_with fail
      rw [hp.out]
      go_ret
      exact ⟨rfl, by repeat first | exact hB.out | refine below_drewN ?_ _⟩
    replace g20 : (bits .andNot .u8 x.b2 y.b2 != 0) = false := by simpa using g20
    by_cases g21 : (bits .and .u8 (bits .xor .u8 x.i2 y.i2) x.b2 != 0) = true
    · have c2 : cov1 x.b2 y.b2 x.i2 y.i2 = false := by have h := g21; unfold cov1 offB; simp at h; simp [h]
      have hp := Kp.mk (show coversR x y = false by unfold coversR; rw [hb'.out, c0, c1, c2]; rfl)
      clear c0 c1 c2
      go_wp2_with fail
      refine wp_loop_rounds (2 + 1) ?_
      rw [rounds_succ]
      go_wp2_with fail
      go_quiet (fail)
      go_wp2_with fail
      rw [rounds_succ]
      go_wp2_with fail
      go_quiet (fail)
      go_wp2_with fail
      rw [rounds_succ]
      go_wp2_with fail
      go_quiet (fail)
      go_wp2_with fail
      rw [hp.out]
      go_ret
      exact ⟨rfl, by repeat first | exact hB.out | refine below_drewN ?_ _⟩
    replace g21 : (bits .and .u8 (bits .xor .u8 x.i2 y.i2) x.b2 != 0) = false := by simpa using g21
    have c2 : cov1 x.b2 y.b2 x.i2 y.i2 = true := by have h := g20; have h2 := g21; unfold cov1 offB; simp at h h2; simp [h, h2]
    have hp := Kp.mk (show coversR x y = true by unfold coversR; rw [hb'.out, c0, c1, c2]; rfl)
    clear c0 c1 c2
    go_wp2_with fail
    refine wp_loop_rounds (3 + 1) ?_
    rw [rounds_succ]
    go_wp2_with fail
    go_quiet (fail)
    go_wp2_with fail
    rw [rounds_succ]
    go_wp2_with fail
    go_quiet (fail)
    go_wp2_with fail
    rw [rounds_succ]
    go_wp2_with fail
    go_quiet (fail)
    go_wp2_with fail
    rw [rounds_succ]
    go_wp2_with fail
    rw [hp.out]
    go_ret
    exact ⟨rfl, by repeat first | exact hB.out | refine below_drewN ?_ _⟩

end Go.Proofs.Ytcolklkjaifplaa.Oct

namespace Go.Proofs.Ytcolklkjaifplaa.Oct
open Go.RowKit
set_option linter.unusedVariables false
set_option linter.unusedSimpArgs false

/-- What is laid over a header, a mask's byte and another's: four bytes at once. -/
theorem byte_covers (b b' i i' : Int) (hb' : U b') :
    (dif i i' b b' = 0 ∧ bits .or .u8 b b' = b' ∧ bits .or .u8 (bits .and .u8 i b) (bits .and .u8 i' b') = bits .and .u8 i' b') ↔ (bits .andNot .u8 b b' = 0 ∧ offB i i' b = 0) := by
  unfold dif offB
  rw [V_0 (U_an _ _), V_inj (U_or _ _) hb', V_inj (U_or _ _) (U_an _ _), V_0 (U_nt _ _), V_0 (U_an _ _)]
  simp only [V_an, V_or, V_xo, V_nt]
  generalize V b = p
  generalize V b' = q
  generalize V i = r
  generalize V i' = s
  simp only [bv_iff]
  constructor
  · rintro ⟨h1, h2, h3⟩
    refine ⟨fun k hk => ?_, fun k hk => ?_⟩
    · have h1 := h1 k hk; have h2 := h2 k hk; have h3 := h3 k hk
      simp only [BitVec.getLsbD_and, BitVec.getLsbD_or, BitVec.getLsbD_xor, not_bit _ _ hk, BitVec.getLsbD_zero] at *
      revert h1 h2 h3
      cases p.getLsbD k <;> cases q.getLsbD k <;> cases r.getLsbD k <;> cases s.getLsbD k <;> simp
    · have h1 := h1 k hk; have h2 := h2 k hk; have h3 := h3 k hk
      simp only [BitVec.getLsbD_and, BitVec.getLsbD_or, BitVec.getLsbD_xor, not_bit _ _ hk, BitVec.getLsbD_zero] at *
      revert h1 h2 h3
      cases p.getLsbD k <;> cases q.getLsbD k <;> cases r.getLsbD k <;> cases s.getLsbD k <;> simp
  · rintro ⟨h1, h2⟩
    refine ⟨fun k hk => ?_, fun k hk => ?_, fun k hk => ?_⟩ <;>
    · have h1 := h1 k hk; have h2 := h2 k hk
      simp only [BitVec.getLsbD_and, BitVec.getLsbD_or, BitVec.getLsbD_xor, not_bit _ _ hk, BitVec.getLsbD_zero] at *
      revert h1 h2
      cases p.getLsbD k <;> cases q.getLsbD k <;> cases r.getLsbD k <;> cases s.getLsbD k <;> simp
/-- .. where all bits count. -/
theorem byte_all (b i h : Int) : (bits .andNot .u8 b 255 = 0 ∧ offB i h b = 0) ↔ offB h i b = 0 := by
  unfold offB
  rw [V_0 (U_nt _ _), V_0 (U_an _ _), V_0 (U_an _ _)]
  simp only [V_an, V_xo, V_nt]
  have e : V 255 = 255#8 := rfl
  rw [e, BitVec.xor_comm (V i) (V h)]
  have z : V b &&& ~~~255#8 = 0#8 := by
    rw [show ~~~255#8 = 0#8 from rfl, BitVec.and_zero]
  simp [z]
/-- What fits both fits what both say. -/
theorem byte_both (b b' i i' h : Int) :
    (dif i i' b b' = 0 → (offB h (bits .or .u8 (bits .and .u8 i b) (bits .and .u8 i' b')) (bits .or .u8 b b') = 0 ↔ (offB h i b = 0 ∧ offB h i' b' = 0))) ∧
    (offB h i b = 0 → offB h i' b' = 0 → dif i i' b b' = 0) := by
  unfold dif offB
  simp only [V_0 (U_an _ _)]
  simp only [V_an, V_or, V_xo, V_nt]
  generalize V b = p
  generalize V b' = q
  generalize V i = r
  generalize V i' = s
  generalize V h = t
  simp only [bv_iff]
  refine ⟨fun h1 => ⟨fun h2 => ⟨fun k hk => ?_, fun k hk => ?_⟩, fun ⟨h2, h3⟩ k hk => ?_⟩, fun h1 h2 k hk => ?_⟩
  · have h1 := h1 k hk; have h2 := h2 k hk
    simp only [BitVec.getLsbD_and, BitVec.getLsbD_or, BitVec.getLsbD_xor, BitVec.getLsbD_zero] at *
    revert h1 h2
    cases p.getLsbD k <;> cases q.getLsbD k <;> cases r.getLsbD k <;> cases s.getLsbD k <;> cases t.getLsbD k <;> simp
  · have h1 := h1 k hk; have h2 := h2 k hk
    simp only [BitVec.getLsbD_and, BitVec.getLsbD_or, BitVec.getLsbD_xor, BitVec.getLsbD_zero] at *
    revert h1 h2
    cases p.getLsbD k <;> cases q.getLsbD k <;> cases r.getLsbD k <;> cases s.getLsbD k <;> cases t.getLsbD k <;> simp
  · have h1 := h1 k hk; have h2 := h2 k hk; have h3 := h3 k hk
    simp only [BitVec.getLsbD_and, BitVec.getLsbD_or, BitVec.getLsbD_xor, BitVec.getLsbD_zero] at *
    revert h1 h2 h3
    cases p.getLsbD k <;> cases q.getLsbD k <;> cases r.getLsbD k <;> cases s.getLsbD k <;> cases t.getLsbD k <;> simp
  · have h1 := h1 k hk; have h2 := h2 k hk
    simp only [BitVec.getLsbD_and, BitVec.getLsbD_or, BitVec.getLsbD_xor, BitVec.getLsbD_zero] at *
    revert h1 h2
    cases p.getLsbD k <;> cases q.getLsbD k <;> cases r.getLsbD k <;> cases s.getLsbD k <;> cases t.getLsbD k <;> simp

theorem eith_covers (a b n : Int) : (eithB a b n = true ∧ eithN a b n = b) ↔ ¬ (a ≠ n ∧ a ≠ b) := by
  unfold eithB eithN
  rw [decide_eq_true_iff]
  split <;> omega
theorem eith_both (a b n v : Int) : (eithB a b n = true → ((eithN a b n = n ∨ eithN a b n = v) ↔ ((a = n ∨ a = v) ∧ (b = n ∨ b = v)))) ∧ ((a = n ∨ a = v) → (b = n ∨ b = v) → eithB a b n = true) := by
  unfold eithB eithN
  rw [decide_eq_true_iff]
  split <;> omega
theorem badF_iff (x : MaskV) (v p : Int) : badF x v p = false ↔ ((x.v = 0 ∨ x.v = v) ∧ (x.m = -1 ∨ x.m = p)) := by
  unfold badF
  by_cases h1 : x.v = 0 <;> by_cases h2 : x.v = v <;> by_cases h3 : x.m = -1 <;> by_cases h4 : x.m = p <;> simp [h1, h2, h3, h4] <;> omega
def FitsR (x : MaskV) (v p a b c : Int) : Prop := ((x.v = 0 ∨ x.v = v) ∧ (x.m = -1 ∨ x.m = p)) ∧ offB a x.i0 x.b0 = 0 ∧ offB b x.i1 x.b1 = 0 ∧ offB c x.i2 x.b2 = 0
theorem fitsR_iff (x : MaskV) (v p a b c : Int) : fitsR x v p a b c = true ↔ FitsR x v p a b c := by
  unfold fitsR FitsR
  rw [← badF_iff]
  simp
def Cov1 (b b' i i' : Int) : Prop := bits .andNot .u8 b b' = 0 ∧ offB i i' b = 0
def CoversR (x y : MaskV) : Prop := ((x.v = 0 ∨ x.v = y.v) ∧ (x.m = -1 ∨ x.m = y.m)) ∧ Cov1 x.b0 y.b0 x.i0 y.i0 ∧ Cov1 x.b1 y.b1 x.i1 y.i1 ∧ Cov1 x.b2 y.b2 x.i2 y.i2
theorem coversR_iff (x y : MaskV) : coversR x y = true ↔ CoversR x y := by
  unfold coversR CoversR cov1 Cov1
  rw [← badF_iff]
  simp
def LikeR (x y : MaskV) : Prop := dif x.i0 y.i0 x.b0 y.b0 = 0 ∧ dif x.i1 y.i1 x.b1 y.b1 = 0 ∧ dif x.i2 y.i2 x.b2 y.b2 = 0
theorem meetB_iff (x y : MaskV) : meetB x y = true ↔ (eithB x.v y.v 0 = true ∧ eithB x.m y.m (-1) = true ∧ LikeR x y) := by
  unfold meetB likeB LikeR
  simp
theorem eqMB_all (x y : MaskV) : eqMB x y = true ↔ (x.v = y.v ∧ x.m = y.m ∧ x.b0 = y.b0 ∧ x.b1 = y.b1 ∧ x.b2 = y.b2 ∧ x.i0 = y.i0 ∧ x.i1 = y.i1 ∧ x.i2 = y.i2) := by
  unfold eqMB
  simp [and_assoc]
theorem U_255 : U 255 := ⟨by decide, by decide⟩
theorem coversP_is (x y : MaskV) (hy0 : U y.b0) (hy1 : U y.b1) (hy2 : U y.b2) : coversP x y = coversR x y := by
  rw [Bool.eq_iff_iff, coversR_iff]
  unfold coversP
  rw [Bool.and_eq_true]
  have c0 := byte_covers x.b0 y.b0 x.i0 y.i0 hy0
  have c1 := byte_covers x.b1 y.b1 x.i1 y.i1 hy1
  have c2 := byte_covers x.b2 y.b2 x.i2 y.i2 hy2
  have cv := eith_covers x.v y.v 0
  have cm := eith_covers x.m y.m (-1)
  unfold CoversR Cov1
  constructor
  · rintro ⟨h1, h2⟩
    unfold meetV at h2
    rw [if_pos h1, eqMB_all] at h2
    obtain ⟨h3, h4, h5, h6, h7⟩ := (meetB_iff x y).1 h1
    obtain ⟨g1, g2, g3, g4, g5, g6, g7, g8⟩ := h2
    refine ⟨⟨by have := cv.1 ⟨h3, g1⟩; omega, by have := cm.1 ⟨h4, g2⟩; omega⟩, c0.1 ⟨h5, g3, g6⟩, c1.1 ⟨h6, g4, g7⟩, c2.1 ⟨h7, g5, g8⟩⟩
  · rintro ⟨⟨h1, h2⟩, h3, h4, h5⟩
    obtain ⟨k1, k2⟩ := cv.2 (by omega)
    obtain ⟨k3, k4⟩ := cm.2 (by omega)
    obtain ⟨p1, p2, p3⟩ := c0.2 h3
    obtain ⟨q1, q2, q3⟩ := c1.2 h4
    obtain ⟨r1, r2, r3⟩ := c2.2 h5
    have hm := (meetB_iff x y).2 ⟨k1, k3, p1, q1, r1⟩
    refine ⟨hm, ?_⟩
    unfold meetV
    rw [if_pos hm, eqMB_all]
    exact ⟨k2, k4, p2, q2, r2, p3, q3, r3⟩
theorem fitsM_is (x : MaskV) (v p a b c : Int) : fitsM x v p a b c = fitsR x v p a b c := by
  unfold fitsM
  rw [coversP_is x _ (show U 255 from U_255) (show U 255 from U_255) (show U 255 from U_255), Bool.eq_iff_iff, coversR_iff, fitsR_iff]
  unfold CoversR Cov1 FitsR fitM
  simp only
  rw [byte_all, byte_all, byte_all]
/-- Meet fits just what both fit. -/
theorem fits_both (x y : MaskV) (v p a b c : Int) : (meetB x y = true → (FitsR (bothV x y) v p a b c ↔ (FitsR x v p a b c ∧ FitsR y v p a b c))) ∧ (FitsR x v p a b c → FitsR y v p a b c → meetB x y = true) := by
  have b0 := byte_both x.b0 y.b0 x.i0 y.i0 a
  have b1 := byte_both x.b1 y.b1 x.i1 y.i1 b
  have b2 := byte_both x.b2 y.b2 x.i2 y.i2 c
  have ev := eith_both x.v y.v 0 v
  have em := eith_both x.m y.m (-1) p
  rw [meetB_iff]
  unfold FitsR bothV LikeR
  simp only
  refine ⟨fun ⟨h1, h2, h3, h4, h5⟩ => ?_, fun ⟨⟨h1, h2⟩, h3, h4, h5⟩ ⟨⟨g1, g2⟩, g3, g4, g5⟩ => ⟨ev.2 h1 g1, em.2 h2 g2, b0.2 h3 g3, b1.2 h4 g4, b2.2 h5 g5⟩⟩
  rw [ev.1 h1, em.1 h2, b0.1 h3, b1.1 h4, b2.1 h5]
  constructor
  · rintro ⟨⟨⟨a1, a2⟩, a3, a4⟩, ⟨a5, a6⟩, ⟨a7, a8⟩, a9, a10⟩
    exact ⟨⟨⟨a1, a3⟩, a5, a7, a9⟩, ⟨a2, a4⟩, a6, a8, a10⟩
  · rintro ⟨⟨⟨a1, a3⟩, a5, a7, a9⟩, ⟨a2, a4⟩, a6, a8, a10⟩
    exact ⟨⟨⟨a1, a2⟩, a3, a4⟩, ⟨a5, a6⟩, ⟨a7, a8⟩, a9, a10⟩
theorem fits_meet (x y : MaskV) (v p a b c : Int) : (fitsR x v p a b c && fitsR y v p a b c) = (meetB x y && fitsR (meetV x y) v p a b c) := by
  obtain ⟨h1, h2⟩ := fits_both x y v p a b c
  rw [Bool.eq_iff_iff, Bool.and_eq_true, Bool.and_eq_true, fitsR_iff, fitsR_iff]
  constructor
  · rintro ⟨g1, g2⟩
    have hm := h2 g1 g2
    refine ⟨hm, ?_⟩
    unfold meetV
    rw [if_pos hm, fitsR_iff]
    exact (h1 hm).2 ⟨g1, g2⟩
  · rintro ⟨hm, g⟩
    unfold meetV at g
    rw [if_pos hm, fitsR_iff] at g
    exact (h1 hm).1 g
end Go.Proofs.Ytcolklkjaifplaa.Oct
