/- Contracts of layer 7: Any, either, likeBits, bare; the document's Any, Fits, Covers. -/
import Derived.Test.YtcolklkjaifplaaOrdL
import Derived.Test.YtcolklkjaifplaaOctZ
import Derived.LoopN
import Derived.StillTailTactics
namespace Go.Proofs.Ytcolklkjaifplaa.Oct
open Go.RowKit
set_option linter.unusedVariables false
set_option linter.unusedSimpArgs false

/-- A mask's cells. -/
def mcl (x : MaskV) : List Value := [.int .i64 x.v, .int .i64 x.m, .int .u8 x.b0, .int .u8 x.b1, .int .u8 x.b2, .int .u8 x.i0, .int .u8 x.i1, .int .u8 x.i2]
def anyM : MaskV := ⟨0, -1, 0, 0, 0, 0, 0, 0⟩
/-- Bits that count in both and are unlike. -/
def dif (p q b c : Int) : Int := bits .and .u8 (bits .and .u8 (bits .xor .u8 p q) b) c
def likeB (x y : MaskV) : Bool := (dif x.i0 y.i0 x.b0 y.b0 == 0) && ((dif x.i1 y.i1 x.b1 y.b1 == 0) && (dif x.i2 y.i2 x.b2 y.b2 == 0))
def bareV (x : MaskV) : MaskV := { x with i0 := bits .and .u8 x.i0 x.b0, i1 := bits .and .u8 x.i1 x.b1, i2 := bits .and .u8 x.i2 x.b2 }
/-- What two numbers say together. -/
def eithN (a b n : Int) : Int := if a = n then b else a
def eithB (a b n : Int) : Bool := decide (a = n ∨ b = n ∨ b = a)

theorem anyM_any (w : World) : Calls Try.prog 13 #[] w fun e w' => e = .returned (.agg #[.int .i64 0, .int .i64 (-1), .int .u8 0, .int .u8 0, .int .u8 0, .int .u8 0, .int .u8 0, .int .u8 0]) ∧ Below w.heap.size w w' := by
  have hv := Vb.new 28 w (mcl anyM)
  go_enter Try.func13, Try.ntmps13
  go_wp2_with fail
  refine bodyPost_ret (results_one Try.results13 _ rfl hv agg_mask) rfl ?_
  exact ⟨rfl, below_alloc w _⟩
theorem either_any (a b n : Int) (w : World) : Calls Try.prog 101 #[.int .i64 a, .int .i64 b, .int .i64 n] w fun e w' => e = .returned (.tuple #[.int .i64 (eithN a b n), .bool (eithB a b n)]) ∧ w = w' := by
  by_cases h1 : a = n
  · have hp := Kp.mk (show eithN a b n = b ∧ eithB a b n = true from ⟨by unfold eithN; rw [if_pos h1], by unfold eithB; simp [h1]⟩)
    subst h1
    go_enter Try.func101, Try.ntmps101
    go_wp2_with fail
    rw [hp.out.1, hp.out.2]
    go_ret2
    exact ⟨rfl, rfl⟩
  · by_cases h2 : b = n
    · have hp := Kp.mk (show eithN a b n = a ∧ eithB a b n = true from ⟨by unfold eithN; rw [if_neg h1], by unfold eithB; simp [h2]⟩)
      have h1' : (a == n) = false := by simpa using h1
      have h2' : (b == n) = true := by simpa using h2
      go_enter Try.func101, Try.ntmps101
      go_wp2_with fail
      rw [hp.out.1, hp.out.2]
      go_ret2
      exact ⟨rfl, rfl⟩
    · by_cases h3 : b = a
      · have hp := Kp.mk (show eithN a b n = a ∧ eithB a b n = true from ⟨by unfold eithN; rw [if_neg h1], by unfold eithB; simp [h1, h2, h3]⟩)
        have h1' : (a == n) = false := by simpa using h1
        have h2' : (b == n) = false := by simpa using h2
        have h3' : (b == a) = true := by simpa using h3
        clear h1 h2 h3
        go_enter Try.func101, Try.ntmps101
        go_wp2_with fail
        rw [hp.out.1, hp.out.2]
        go_ret2
        exact ⟨rfl, rfl⟩
      · have hp := Kp.mk (show eithN a b n = a ∧ eithB a b n = false from ⟨by unfold eithN; rw [if_neg h1], by unfold eithB; simp [h1, h2, h3]⟩)
        have h1' : (a == n) = false := by simpa using h1
        have h2' : (b == n) = false := by simpa using h2
        have h3' : (b == a) = false := by simpa using h3
        clear h1 h2 h3
        go_enter Try.func101, Try.ntmps101
        go_wp2_with fail
        rw [hp.out.1, hp.out.2]
        go_ret2
        exact ⟨rfl, rfl⟩
set_option maxRecDepth 100000 in
set_option maxHeartbeats 1600000 in
theorem likeBits_any (x y : MaskV) (w : World) : Calls Try.prog 102 #[.agg #[.int .i64 x.v, .int .i64 x.m, .int .u8 x.b0, .int .u8 x.b1, .int .u8 x.b2, .int .u8 x.i0, .int .u8 x.i1, .int .u8 x.i2], .agg #[.int .i64 y.v, .int .i64 y.m, .int .u8 y.b0, .int .u8 y.b1, .int .u8 y.b2, .int .u8 y.i0, .int .u8 y.i1, .int .u8 y.i2]] w fun e w' => e = .returned (.bool (likeB x y)) ∧ Below w.heap.size w w' := by
  have hb := Kp.mk (below_two w (.cells #[.int .i64 x.v, .int .i64 x.m, .int .u8 x.b0, .int .u8 x.b1, .int .u8 x.b2, .int .u8 x.i0, .int .u8 x.i1, .int .u8 x.i2] 28) (.cells #[.int .i64 y.v, .int .i64 y.m, .int .u8 y.b0, .int .u8 y.b1, .int .u8 y.b2, .int .u8 y.i0, .int .u8 y.i1, .int .u8 y.i2] 28))
  by_cases c0 : (dif x.i0 y.i0 x.b0 y.b0 == 0) = true
  rotate_left
  · have c0' : (dif x.i0 y.i0 x.b0 y.b0 == 0) = false := by simpa using c0
    have n0 : (bits .and .u8 (bits .and .u8 (bits .xor .u8 x.i0 y.i0) x.b0) y.b0 != 0) = true := by unfold dif at c0'; simp only [bne, c0', Bool.not_false]
    have hp := Kp.mk (show likeB x y = false by unfold likeB; rw [c0']; rfl)
    clear c0 c0'
    go_enter Try.func102, Try.ntmps102
    go_wp2_with fail
    refine wp_loop_rounds (0 + 1) ?_
    rw [rounds_succ]
    go_wp2_with fail
    go_quiet (fail)
    go_wp2_with fail
    rw [hp.out]
    go_ret
    exact ⟨rfl, by repeat first | exact hb.out | refine below_drewN ?_ _⟩
  by_cases c1 : (dif x.i1 y.i1 x.b1 y.b1 == 0) = true
  rotate_left
  · have n0 : (bits .and .u8 (bits .and .u8 (bits .xor .u8 x.i0 y.i0) x.b0) y.b0 != 0) = false := by unfold dif at c0; simp only [bne, c0, Bool.not_true]
    have c1' : (dif x.i1 y.i1 x.b1 y.b1 == 0) = false := by simpa using c1
    have n1 : (bits .and .u8 (bits .and .u8 (bits .xor .u8 x.i1 y.i1) x.b1) y.b1 != 0) = true := by unfold dif at c1'; simp only [bne, c1', Bool.not_false]
    have hp := Kp.mk (show likeB x y = false by unfold likeB; rw [c0, c1']; rfl)
    clear c0 c1 c1'
    go_enter Try.func102, Try.ntmps102
    go_wp2_with fail
    refine wp_loop_rounds (1 + 1) ?_
    rw [rounds_succ]
    go_wp2_with fail
    go_quiet (fail)
    go_wp2_with fail
    rw [rounds_succ]
    go_wp2_with fail
    go_quiet (fail)
    go_wp2_with fail
    rw [hp.out]
    go_ret
    exact ⟨rfl, by repeat first | exact hb.out | refine below_drewN ?_ _⟩
  by_cases c2 : (dif x.i2 y.i2 x.b2 y.b2 == 0) = true
  rotate_left
  · have n0 : (bits .and .u8 (bits .and .u8 (bits .xor .u8 x.i0 y.i0) x.b0) y.b0 != 0) = false := by unfold dif at c0; simp only [bne, c0, Bool.not_true]
    have n1 : (bits .and .u8 (bits .and .u8 (bits .xor .u8 x.i1 y.i1) x.b1) y.b1 != 0) = false := by unfold dif at c1; simp only [bne, c1, Bool.not_true]
    have c2' : (dif x.i2 y.i2 x.b2 y.b2 == 0) = false := by simpa using c2
    have n2 : (bits .and .u8 (bits .and .u8 (bits .xor .u8 x.i2 y.i2) x.b2) y.b2 != 0) = true := by unfold dif at c2'; simp only [bne, c2', Bool.not_false]
    have hp := Kp.mk (show likeB x y = false by unfold likeB; rw [c0, c1, c2']; rfl)
    clear c0 c1 c2 c2'
    go_enter Try.func102, Try.ntmps102
    go_wp2_with fail
    refine wp_loop_rounds (2 + 1) ?_
    rw [rounds_succ]
    go_wp2_with fail
    go_quiet (fail)
    go_wp2_with fail
    rw [rounds_succ]
    go_wp2_with fail
    go_quiet (fail)
    go_wp2_with fail
    rw [rounds_succ]
    go_wp2_with fail
    go_quiet (fail)
    go_wp2_with fail
    rw [hp.out]
    go_ret
    exact ⟨rfl, by repeat first | exact hb.out | refine below_drewN ?_ _⟩
  have n0 : (bits .and .u8 (bits .and .u8 (bits .xor .u8 x.i0 y.i0) x.b0) y.b0 != 0) = false := by unfold dif at c0; simp only [bne, c0, Bool.not_true]
  have n1 : (bits .and .u8 (bits .and .u8 (bits .xor .u8 x.i1 y.i1) x.b1) y.b1 != 0) = false := by unfold dif at c1; simp only [bne, c1, Bool.not_true]
  have n2 : (bits .and .u8 (bits .and .u8 (bits .xor .u8 x.i2 y.i2) x.b2) y.b2 != 0) = false := by unfold dif at c2; simp only [bne, c2, Bool.not_true]
  have hp := Kp.mk (show likeB x y = true by unfold likeB; rw [c0, c1, c2]; rfl)
  clear c0 c1 c2
  go_enter Try.func102, Try.ntmps102
  go_wp2_with fail
  refine wp_loop_rounds (3 + 1) ?_
  rw [rounds_succ]
  go_wp2_with fail
  go_quiet (fail)
  go_wp2_with fail
  rw [rounds_succ]
  go_wp2_with fail
  go_quiet (fail)
  go_wp2_with fail
  rw [rounds_succ]
  go_wp2_with fail
  go_quiet (fail)
  go_wp2_with fail
  rw [rounds_succ]
  go_wp2_with fail
  rw [hp.out]
  go_ret
  exact ⟨rfl, by repeat first | exact hb.out | refine below_drewN ?_ _⟩
set_option maxRecDepth 100000 in
set_option maxHeartbeats 1600000 in
theorem bare_any (x : MaskV) (w : World) : Calls Try.prog 88 #[.agg #[.int .i64 x.v, .int .i64 x.m, .int .u8 x.b0, .int .u8 x.b1, .int .u8 x.b2, .int .u8 x.i0, .int .u8 x.i1, .int .u8 x.i2]] w fun e w' => e = .returned (.agg #[.int .i64 (bareV x).v, .int .i64 (bareV x).m, .int .u8 (bareV x).b0, .int .u8 (bareV x).b1, .int .u8 (bareV x).b2, .int .u8 (bareV x).i0, .int .u8 (bareV x).i1, .int .u8 (bareV x).i2]) ∧ Below w.heap.size w w' := by
  have hx : Vb 28 ((w.alloc (.cells #[.int .i64 x.v, .int .i64 x.m, .int .u8 x.b0, .int .u8 x.b1, .int .u8 x.b2, .int .u8 x.i0, .int .u8 x.i1, .int .u8 x.i2] 28)).alloc (.cells #[.int .i64 0, .int .i64 0, .int .u8 0, .int .u8 0, .int .u8 0, .int .u8 0, .int .u8 0, .int .u8 0] 28)) w.heap.size [.int .i64 x.v, .int .i64 x.m, .int .u8 x.b0, .int .u8 x.b1, .int .u8 x.b2, .int .u8 x.i0, .int .u8 x.i1, .int .u8 x.i2] := (Vb.new 28 w (mcl x)).alloc _
  have hr : Vb 28 ((w.alloc (.cells #[.int .i64 x.v, .int .i64 x.m, .int .u8 x.b0, .int .u8 x.b1, .int .u8 x.b2, .int .u8 x.i0, .int .u8 x.i1, .int .u8 x.i2] 28)).alloc (.cells #[.int .i64 0, .int .i64 0, .int .u8 0, .int .u8 0, .int .u8 0, .int .u8 0, .int .u8 0, .int .u8 0] 28)) (w.heap.size + 1) [.int .i64 0, .int .i64 0, .int .u8 0, .int .u8 0, .int .u8 0, .int .u8 0, .int .u8 0, .int .u8 0] := by have := Vb.new 28 (w.alloc (.cells #[.int .i64 x.v, .int .i64 x.m, .int .u8 x.b0, .int .u8 x.b1, .int .u8 x.b2, .int .u8 x.i0, .int .u8 x.i1, .int .u8 x.i2] 28)) (mcl noMask); simpa [mcl, noMask] using this
  have hB := below_two w (.cells #[.int .i64 x.v, .int .i64 x.m, .int .u8 x.b0, .int .u8 x.b1, .int .u8 x.b2, .int .u8 x.i0, .int .u8 x.i1, .int .u8 x.i2] 28) (.cells #[.int .i64 0, .int .i64 0, .int .u8 0, .int .u8 0, .int .u8 0, .int .u8 0, .int .u8 0, .int .u8 0] 28)
  go_enter Try.func88, Try.ntmps88
  go_upto_region 1 with fail
  generalize (w.alloc (.cells #[.int .i64 x.v, .int .i64 x.m, .int .u8 x.b0, .int .u8 x.b1, .int .u8 x.b2, .int .u8 x.i0, .int .u8 x.i1, .int .u8 x.i2] 28)).alloc (.cells #[.int .i64 0, .int .i64 0, .int .u8 0, .int .u8 0, .int .u8 0, .int .u8 0, .int .u8 0, .int .u8 0] 28) = w0 at *
  have hf := hx.free
  obtain ⟨d0, d1, d2, d3, d4, d5, d6, d7⟩ := hx.c8
  go_wp2_with fail
  refine wp_loop_rounds (3 + 1) ?_
  rw [rounds_succ]
  go_wp2_with fail
  go_still_tail 11, (by kernel_rfl)
  have hx1 : Vb 28 w0.drew w.heap.size [.int .i64 x.v, .int .i64 x.m, .int .u8 x.b0, .int .u8 x.b1, .int .u8 x.b2, .int .u8 x.i0, .int .u8 x.i1, .int .u8 x.i2] := hx
  have hr1 : Vb 28 w0.drew (w.heap.size + 1) [.int .i64 0, .int .i64 0, .int .u8 0, .int .u8 0, .int .u8 0, .int .u8 0, .int .u8 0, .int .u8 0] := hr
  have hB1 : Below w.heap.size w w0.drew := hB.drew
  clear hx hr hB hf d0 d1 d2 d3 d4 d5 d6 d7
  change wpList _ _ _ _ _ w0.drew
  generalize w0.drew = u0 at *
  have hf := hx1.free
  obtain ⟨d0, d1, d2, d3, d4, d5, d6, d7⟩ := hx1.c8
  have hx : Vb 28 (u0.setCell ⟨w.heap.size, 5, none⟩ (.int .u8 (bits .and .u8 x.i0 x.b0))) w.heap.size [.int .i64 x.v, .int .i64 x.m, .int .u8 x.b0, .int .u8 x.b1, .int .u8 x.b2, .int .u8 (bits .and .u8 x.i0 x.b0), .int .u8 x.i1, .int .u8 x.i2] := hx1.set 5 _
  have hr : Vb 28 (u0.setCell ⟨w.heap.size, 5, none⟩ (.int .u8 (bits .and .u8 x.i0 x.b0))) (w.heap.size + 1) [.int .i64 0, .int .i64 0, .int .u8 0, .int .u8 0, .int .u8 0, .int .u8 0, .int .u8 0, .int .u8 0] := hr1.other (by omega) _ _
  have hB := hB1.setCell (p := ⟨w.heap.size, 5, none⟩) (by simp) (.int .u8 (bits .and .u8 x.i0 x.b0))
  go_wp2_with fail
  clear hx1 hr1 hB1 hf d0 d1 d2 d3 d4 d5 d6 d7
  generalize u0.setCell ⟨w.heap.size, 5, none⟩ (.int .u8 (bits .and .u8 x.i0 x.b0)) = w1 at *
  have hf := hx.free
  obtain ⟨d0, d1, d2, d3, d4, d5, d6, d7⟩ := hx.c8
  rw [rounds_succ]
  go_wp2_with fail
  go_still_tail 11, (by kernel_rfl)
  have hx2 : Vb 28 w1.drew w.heap.size [.int .i64 x.v, .int .i64 x.m, .int .u8 x.b0, .int .u8 x.b1, .int .u8 x.b2, .int .u8 (bits .and .u8 x.i0 x.b0), .int .u8 x.i1, .int .u8 x.i2] := hx
  have hr2 : Vb 28 w1.drew (w.heap.size + 1) [.int .i64 0, .int .i64 0, .int .u8 0, .int .u8 0, .int .u8 0, .int .u8 0, .int .u8 0, .int .u8 0] := hr
  have hB2 : Below w.heap.size w w1.drew := hB.drew
  clear hx hr hB hf d0 d1 d2 d3 d4 d5 d6 d7
  change wpList _ _ _ _ _ w1.drew
  generalize w1.drew = u1 at *
  have hf := hx2.free
  obtain ⟨d0, d1, d2, d3, d4, d5, d6, d7⟩ := hx2.c8
  have hx : Vb 28 (u1.setCell ⟨w.heap.size, 6, none⟩ (.int .u8 (bits .and .u8 x.i1 x.b1))) w.heap.size [.int .i64 x.v, .int .i64 x.m, .int .u8 x.b0, .int .u8 x.b1, .int .u8 x.b2, .int .u8 (bits .and .u8 x.i0 x.b0), .int .u8 (bits .and .u8 x.i1 x.b1), .int .u8 x.i2] := hx2.set 6 _
  have hr : Vb 28 (u1.setCell ⟨w.heap.size, 6, none⟩ (.int .u8 (bits .and .u8 x.i1 x.b1))) (w.heap.size + 1) [.int .i64 0, .int .i64 0, .int .u8 0, .int .u8 0, .int .u8 0, .int .u8 0, .int .u8 0, .int .u8 0] := hr2.other (by omega) _ _
  have hB := hB2.setCell (p := ⟨w.heap.size, 6, none⟩) (by simp) (.int .u8 (bits .and .u8 x.i1 x.b1))
  go_wp2_with fail
  clear hx2 hr2 hB2 hf d0 d1 d2 d3 d4 d5 d6 d7
  generalize u1.setCell ⟨w.heap.size, 6, none⟩ (.int .u8 (bits .and .u8 x.i1 x.b1)) = w2 at *
  have hf := hx.free
  obtain ⟨d0, d1, d2, d3, d4, d5, d6, d7⟩ := hx.c8
  rw [rounds_succ]
  go_wp2_with fail
  go_still_tail 11, (by kernel_rfl)
  have hx3 : Vb 28 w2.drew w.heap.size [.int .i64 x.v, .int .i64 x.m, .int .u8 x.b0, .int .u8 x.b1, .int .u8 x.b2, .int .u8 (bits .and .u8 x.i0 x.b0), .int .u8 (bits .and .u8 x.i1 x.b1), .int .u8 x.i2] := hx
  have hr3 : Vb 28 w2.drew (w.heap.size + 1) [.int .i64 0, .int .i64 0, .int .u8 0, .int .u8 0, .int .u8 0, .int .u8 0, .int .u8 0, .int .u8 0] := hr
  have hB3 : Below w.heap.size w w2.drew := hB.drew
  clear hx hr hB hf d0 d1 d2 d3 d4 d5 d6 d7
  change wpList _ _ _ _ _ w2.drew
  generalize w2.drew = u2 at *
  have hf := hx3.free
  obtain ⟨d0, d1, d2, d3, d4, d5, d6, d7⟩ := hx3.c8
  have hx : Vb 28 (u2.setCell ⟨w.heap.size, 7, none⟩ (.int .u8 (bits .and .u8 x.i2 x.b2))) w.heap.size [.int .i64 x.v, .int .i64 x.m, .int .u8 x.b0, .int .u8 x.b1, .int .u8 x.b2, .int .u8 (bits .and .u8 x.i0 x.b0), .int .u8 (bits .and .u8 x.i1 x.b1), .int .u8 (bits .and .u8 x.i2 x.b2)] := hx3.set 7 _
  have hr : Vb 28 (u2.setCell ⟨w.heap.size, 7, none⟩ (.int .u8 (bits .and .u8 x.i2 x.b2))) (w.heap.size + 1) [.int .i64 0, .int .i64 0, .int .u8 0, .int .u8 0, .int .u8 0, .int .u8 0, .int .u8 0, .int .u8 0] := hr3.other (by omega) _ _
  have hB := hB3.setCell (p := ⟨w.heap.size, 7, none⟩) (by simp) (.int .u8 (bits .and .u8 x.i2 x.b2))
  go_wp2_with fail
  clear hx3 hr3 hB3 hf d0 d1 d2 d3 d4 d5 d6 d7
  generalize u2.setCell ⟨w.heap.size, 7, none⟩ (.int .u8 (bits .and .u8 x.i2 x.b2)) = w3 at *
  have hf := hx.free
  obtain ⟨d0, d1, d2, d3, d4, d5, d6, d7⟩ := hx.c8
  rw [rounds_succ]
  clear hf d0 d1 d2 d3 d4 d5 d6 d7
  go_wp2_with (first | refine wpList_load_vb (vs := [.int .i64 x.v, .int .i64 x.m, .int .u8 x.b0, .int .u8 x.b1, .int .u8 x.b2, .int .u8 (bits .and .u8 x.i0 x.b0), .int .u8 (bits .and .u8 x.i1 x.b1), .int .u8 (bits .and .u8 x.i2 x.b2)]) rfl (.tmp 1) rfl rfl hx rfl agg_mask ?_ | (refine wpList_store_vb (vs := [.int .i64 x.v, .int .i64 x.m, .int .u8 x.b0, .int .u8 x.b1, .int .u8 x.b2, .int .u8 (bits .and .u8 x.i0 x.b0), .int .u8 (bits .and .u8 x.i1 x.b1), .int .u8 (bits .and .u8 x.i2 x.b2)]) rfl (.tmp 2) (.tmp 19) rfl rfl rfl hr rfl agg_mask rfl ?_; intro w9 hv9 hg9 hz9))
  refine bodyPost_ret (results_one Try.results88 _ rfl hv9 agg_mask) rfl ?_
  exact ⟨rfl, hB.grown hg9 (by have := hx.lt; omega) (fun k e => by simp at e; omega)⟩

end Go.Proofs.Ytcolklkjaifplaa.Oct
