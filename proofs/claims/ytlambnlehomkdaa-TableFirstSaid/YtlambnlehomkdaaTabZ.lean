/- Contracts of layer 9: rule.Same of any two rules. -/
import Derived.Test.YtlambnlehomkdaaTabC
import Derived.Test.YtlambnlehomkdaaRulF
namespace Go.Proofs.Ytlambnlehomkdaa.Oct
open Go.RowKit
set_option linter.unusedVariables false
set_option linter.unusedSimpArgs false

set_option maxRecDepth 100000 in
set_option maxHeartbeats 8000000 in
/-- Same answers some Bool; true, where the rules are alike. -/
theorem sameU_any {w : World} (x y : It) (hx0 : Ob w x) (hy0 : Ob w y) : Calls Try.prog 32 #[.agg (ics x).toArray, .agg (ics y).toArray] w fun e w' => ∃ b, e = .returned (.bool b) ∧ (x.r = y.r → b = true) ∧ Below w.heap.size w w' := by
  have hx : Vb 36 ((w.alloc (.cells #[.int .i64 x.r.k, .int .i64 x.r.pr, .int .i64 x.r.to, .int .i64 x.r.po, .int .i64 x.r.x.v, .int .i64 x.r.x.m, .int .u8 x.r.x.b0, .int .u8 x.r.x.b1, .int .u8 x.r.x.b2, .int .u8 x.r.x.i0, .int .u8 x.r.x.i1, .int .u8 x.r.x.i2, .slice x.A x.r.os.length x.c] 36)).alloc (.cells #[.int .i64 y.r.k, .int .i64 y.r.pr, .int .i64 y.r.to, .int .i64 y.r.po, .int .i64 y.r.x.v, .int .i64 y.r.x.m, .int .u8 y.r.x.b0, .int .u8 y.r.x.b1, .int .u8 y.r.x.b2, .int .u8 y.r.x.i0, .int .u8 y.r.x.i1, .int .u8 y.r.x.i2, .slice y.A y.r.os.length y.c] 36)) w.heap.size [.int .i64 x.r.k, .int .i64 x.r.pr, .int .i64 x.r.to, .int .i64 x.r.po, .int .i64 x.r.x.v, .int .i64 x.r.x.m, .int .u8 x.r.x.b0, .int .u8 x.r.x.b1, .int .u8 x.r.x.b2, .int .u8 x.r.x.i0, .int .u8 x.r.x.i1, .int .u8 x.r.x.i2, .slice x.A x.r.os.length x.c] := (Vb.new 36 w [.int .i64 x.r.k, .int .i64 x.r.pr, .int .i64 x.r.to, .int .i64 x.r.po, .int .i64 x.r.x.v, .int .i64 x.r.x.m, .int .u8 x.r.x.b0, .int .u8 x.r.x.b1, .int .u8 x.r.x.b2, .int .u8 x.r.x.i0, .int .u8 x.r.x.i1, .int .u8 x.r.x.i2, .slice x.A x.r.os.length x.c]).alloc _
  have hy : Vb 36 ((w.alloc (.cells #[.int .i64 x.r.k, .int .i64 x.r.pr, .int .i64 x.r.to, .int .i64 x.r.po, .int .i64 x.r.x.v, .int .i64 x.r.x.m, .int .u8 x.r.x.b0, .int .u8 x.r.x.b1, .int .u8 x.r.x.b2, .int .u8 x.r.x.i0, .int .u8 x.r.x.i1, .int .u8 x.r.x.i2, .slice x.A x.r.os.length x.c] 36)).alloc (.cells #[.int .i64 y.r.k, .int .i64 y.r.pr, .int .i64 y.r.to, .int .i64 y.r.po, .int .i64 y.r.x.v, .int .i64 y.r.x.m, .int .u8 y.r.x.b0, .int .u8 y.r.x.b1, .int .u8 y.r.x.b2, .int .u8 y.r.x.i0, .int .u8 y.r.x.i1, .int .u8 y.r.x.i2, .slice y.A y.r.os.length y.c] 36)) (w.heap.size + 1) [.int .i64 y.r.k, .int .i64 y.r.pr, .int .i64 y.r.to, .int .i64 y.r.po, .int .i64 y.r.x.v, .int .i64 y.r.x.m, .int .u8 y.r.x.b0, .int .u8 y.r.x.b1, .int .u8 y.r.x.b2, .int .u8 y.r.x.i0, .int .u8 y.r.x.i1, .int .u8 y.r.x.i2, .slice y.A y.r.os.length y.c] := by have := Vb.new 36 (w.alloc (.cells #[.int .i64 x.r.k, .int .i64 x.r.pr, .int .i64 x.r.to, .int .i64 x.r.po, .int .i64 x.r.x.v, .int .i64 x.r.x.m, .int .u8 x.r.x.b0, .int .u8 x.r.x.b1, .int .u8 x.r.x.b2, .int .u8 x.r.x.i0, .int .u8 x.r.x.i1, .int .u8 x.r.x.i2, .slice x.A x.r.os.length x.c] 36)) [.int .i64 y.r.k, .int .i64 y.r.pr, .int .i64 y.r.to, .int .i64 y.r.po, .int .i64 y.r.x.v, .int .i64 y.r.x.m, .int .u8 y.r.x.b0, .int .u8 y.r.x.b1, .int .u8 y.r.x.b2, .int .u8 y.r.x.i0, .int .u8 y.r.x.i1, .int .u8 y.r.x.i2, .slice y.A y.r.os.length y.c]; simpa using this
  have hb0 := below_two w (.cells #[.int .i64 x.r.k, .int .i64 x.r.pr, .int .i64 x.r.to, .int .i64 x.r.po, .int .i64 x.r.x.v, .int .i64 x.r.x.m, .int .u8 x.r.x.b0, .int .u8 x.r.x.b1, .int .u8 x.r.x.b2, .int .u8 x.r.x.i0, .int .u8 x.r.x.i1, .int .u8 x.r.x.i2, .slice x.A x.r.os.length x.c] 36) (.cells #[.int .i64 y.r.k, .int .i64 y.r.pr, .int .i64 y.r.to, .int .i64 y.r.po, .int .i64 y.r.x.v, .int .i64 y.r.x.m, .int .u8 y.r.x.b0, .int .u8 y.r.x.b1, .int .u8 y.r.x.b2, .int .u8 y.r.x.i0, .int .u8 y.r.x.i1, .int .u8 y.r.x.i2, .slice y.A y.r.os.length y.c] 36)
  have eM : ∀ w, (Op.equalIn 10000 33 (.agg #[.int .i64 x.r.x.v, .int .i64 x.r.x.m, .int .u8 x.r.x.b0, .int .u8 x.r.x.b1, .int .u8 x.r.x.b2, .int .u8 x.r.x.i0, .int .u8 x.r.x.i1, .int .u8 x.r.x.i2]) (.agg #[.int .i64 y.r.x.v, .int .i64 y.r.x.m, .int .u8 y.r.x.b0, .int .u8 y.r.x.b1, .int .u8 y.r.x.b2, .int .u8 y.r.x.i0, .int .u8 y.r.x.i1, .int .u8 y.r.x.i2])).run Try.prog w = .ok (eqMB x.r.x y.r.x) w := fun w => eq_mask x.r.x y.r.x w
  have ha := hx0.ro.below' hb0 (Nat.le_refl _)
  have hb := hy0.ro.below' hb0 (Nat.le_refl _)
  rw [show (ics x).toArray = #[.int .i64 x.r.k, .int .i64 x.r.pr, .int .i64 x.r.to, .int .i64 x.r.po, .int .i64 x.r.x.v, .int .i64 x.r.x.m, .int .u8 x.r.x.b0, .int .u8 x.r.x.b1, .int .u8 x.r.x.b2, .int .u8 x.r.x.i0, .int .u8 x.r.x.i1, .int .u8 x.r.x.i2, .slice x.A x.r.os.length x.c] from rfl, show (ics y).toArray = #[.int .i64 y.r.k, .int .i64 y.r.pr, .int .i64 y.r.to, .int .i64 y.r.po, .int .i64 y.r.x.v, .int .i64 y.r.x.m, .int .u8 y.r.x.b0, .int .u8 y.r.x.b1, .int .u8 y.r.x.b2, .int .u8 y.r.x.i0, .int .u8 y.r.x.i1, .int .u8 y.r.x.i2, .slice y.A y.r.os.length y.c] from rfl]
  by_cases c0 : (x.r.k == y.r.k) = true
  rotate_left
  · have hne := Kp.mk (show ¬ x.r = y.r from fun h => c0 (by rw [h]; simp))
    have q0 : (x.r.k == y.r.k) = false := by simpa using c0
    clear c0
    go_enter Try.func32, Try.ntmps32
    go_upto_region 1 with fail
    generalize (w.alloc (.cells #[.int .i64 x.r.k, .int .i64 x.r.pr, .int .i64 x.r.to, .int .i64 x.r.po, .int .i64 x.r.x.v, .int .i64 x.r.x.m, .int .u8 x.r.x.b0, .int .u8 x.r.x.b1, .int .u8 x.r.x.b2, .int .u8 x.r.x.i0, .int .u8 x.r.x.i1, .int .u8 x.r.x.i2, .slice x.A x.r.os.length x.c] 36)).alloc (.cells #[.int .i64 y.r.k, .int .i64 y.r.pr, .int .i64 y.r.to, .int .i64 y.r.po, .int .i64 y.r.x.v, .int .i64 y.r.x.m, .int .u8 y.r.x.b0, .int .u8 y.r.x.b1, .int .u8 y.r.x.b2, .int .u8 y.r.x.i0, .int .u8 y.r.x.i1, .int .u8 y.r.x.i2, .slice y.A y.r.os.length y.c] 36) = w0 at *
    obtain ⟨d0, d1, d2, d3, d4, d5, d6, d7, d8, d9, d10, d11, d12⟩ := hx.c13
    obtain ⟨e0, e1, e2, e3, e4, e5, e6, e7, e8, e9, e10, e11, e12⟩ := hy.c13
    go_wp2_with fail
    go_ret
    exact ⟨_, rfl, fun h => absurd h hne.out, hb0⟩
  by_cases c1 : (x.r.pr == y.r.pr) = true
  rotate_left
  · have hne := Kp.mk (show ¬ x.r = y.r from fun h => c1 (by rw [h]; simp))
    have q1 : (x.r.pr == y.r.pr) = false := by simpa using c1
    clear c1
    go_enter Try.func32, Try.ntmps32
    go_upto_region 1 with fail
    generalize (w.alloc (.cells #[.int .i64 x.r.k, .int .i64 x.r.pr, .int .i64 x.r.to, .int .i64 x.r.po, .int .i64 x.r.x.v, .int .i64 x.r.x.m, .int .u8 x.r.x.b0, .int .u8 x.r.x.b1, .int .u8 x.r.x.b2, .int .u8 x.r.x.i0, .int .u8 x.r.x.i1, .int .u8 x.r.x.i2, .slice x.A x.r.os.length x.c] 36)).alloc (.cells #[.int .i64 y.r.k, .int .i64 y.r.pr, .int .i64 y.r.to, .int .i64 y.r.po, .int .i64 y.r.x.v, .int .i64 y.r.x.m, .int .u8 y.r.x.b0, .int .u8 y.r.x.b1, .int .u8 y.r.x.b2, .int .u8 y.r.x.i0, .int .u8 y.r.x.i1, .int .u8 y.r.x.i2, .slice y.A y.r.os.length y.c] 36) = w0 at *
    obtain ⟨d0, d1, d2, d3, d4, d5, d6, d7, d8, d9, d10, d11, d12⟩ := hx.c13
    obtain ⟨e0, e1, e2, e3, e4, e5, e6, e7, e8, e9, e10, e11, e12⟩ := hy.c13
    go_wp2_with fail
    go_ret
    exact ⟨_, rfl, fun h => absurd h hne.out, hb0⟩
  by_cases c2 : (x.r.to == y.r.to) = true
  rotate_left
  · have hne := Kp.mk (show ¬ x.r = y.r from fun h => c2 (by rw [h]; simp))
    have q2 : (x.r.to == y.r.to) = false := by simpa using c2
    clear c2
    go_enter Try.func32, Try.ntmps32
    go_upto_region 1 with fail
    generalize (w.alloc (.cells #[.int .i64 x.r.k, .int .i64 x.r.pr, .int .i64 x.r.to, .int .i64 x.r.po, .int .i64 x.r.x.v, .int .i64 x.r.x.m, .int .u8 x.r.x.b0, .int .u8 x.r.x.b1, .int .u8 x.r.x.b2, .int .u8 x.r.x.i0, .int .u8 x.r.x.i1, .int .u8 x.r.x.i2, .slice x.A x.r.os.length x.c] 36)).alloc (.cells #[.int .i64 y.r.k, .int .i64 y.r.pr, .int .i64 y.r.to, .int .i64 y.r.po, .int .i64 y.r.x.v, .int .i64 y.r.x.m, .int .u8 y.r.x.b0, .int .u8 y.r.x.b1, .int .u8 y.r.x.b2, .int .u8 y.r.x.i0, .int .u8 y.r.x.i1, .int .u8 y.r.x.i2, .slice y.A y.r.os.length y.c] 36) = w0 at *
    obtain ⟨d0, d1, d2, d3, d4, d5, d6, d7, d8, d9, d10, d11, d12⟩ := hx.c13
    obtain ⟨e0, e1, e2, e3, e4, e5, e6, e7, e8, e9, e10, e11, e12⟩ := hy.c13
    go_wp2_with fail
    go_ret
    exact ⟨_, rfl, fun h => absurd h hne.out, hb0⟩
  by_cases c3 : (x.r.po == y.r.po) = true
  rotate_left
  · have hne := Kp.mk (show ¬ x.r = y.r from fun h => c3 (by rw [h]; simp))
    have q3 : (x.r.po == y.r.po) = false := by simpa using c3
    clear c3
    go_enter Try.func32, Try.ntmps32
    go_upto_region 1 with fail
    generalize (w.alloc (.cells #[.int .i64 x.r.k, .int .i64 x.r.pr, .int .i64 x.r.to, .int .i64 x.r.po, .int .i64 x.r.x.v, .int .i64 x.r.x.m, .int .u8 x.r.x.b0, .int .u8 x.r.x.b1, .int .u8 x.r.x.b2, .int .u8 x.r.x.i0, .int .u8 x.r.x.i1, .int .u8 x.r.x.i2, .slice x.A x.r.os.length x.c] 36)).alloc (.cells #[.int .i64 y.r.k, .int .i64 y.r.pr, .int .i64 y.r.to, .int .i64 y.r.po, .int .i64 y.r.x.v, .int .i64 y.r.x.m, .int .u8 y.r.x.b0, .int .u8 y.r.x.b1, .int .u8 y.r.x.b2, .int .u8 y.r.x.i0, .int .u8 y.r.x.i1, .int .u8 y.r.x.i2, .slice y.A y.r.os.length y.c] 36) = w0 at *
    obtain ⟨d0, d1, d2, d3, d4, d5, d6, d7, d8, d9, d10, d11, d12⟩ := hx.c13
    obtain ⟨e0, e1, e2, e3, e4, e5, e6, e7, e8, e9, e10, e11, e12⟩ := hy.c13
    go_wp2_with fail
    go_ret
    exact ⟨_, rfl, fun h => absurd h hne.out, hb0⟩
  by_cases c4 : (eqMB x.r.x y.r.x) = true
  rotate_left
  · have hne := Kp.mk (show ¬ x.r = y.r from fun h => c4 (by rw [h]; unfold eqMB; simp))
    have q4 : (eqMB x.r.x y.r.x) = false := by simpa using c4
    clear c4
    simp only [q4] at eM
    clear q4
    go_enter Try.func32, Try.ntmps32
    go_upto_region 1 with fail
    generalize (w.alloc (.cells #[.int .i64 x.r.k, .int .i64 x.r.pr, .int .i64 x.r.to, .int .i64 x.r.po, .int .i64 x.r.x.v, .int .i64 x.r.x.m, .int .u8 x.r.x.b0, .int .u8 x.r.x.b1, .int .u8 x.r.x.b2, .int .u8 x.r.x.i0, .int .u8 x.r.x.i1, .int .u8 x.r.x.i2, .slice x.A x.r.os.length x.c] 36)).alloc (.cells #[.int .i64 y.r.k, .int .i64 y.r.pr, .int .i64 y.r.to, .int .i64 y.r.po, .int .i64 y.r.x.v, .int .i64 y.r.x.m, .int .u8 y.r.x.b0, .int .u8 y.r.x.b1, .int .u8 y.r.x.b2, .int .u8 y.r.x.i0, .int .u8 y.r.x.i1, .int .u8 y.r.x.i2, .slice y.A y.r.os.length y.c] 36) = w0 at *
    obtain ⟨d0, d1, d2, d3, d4, d5, d6, d7, d8, d9, d10, d11, d12⟩ := hx.c13
    obtain ⟨e0, e1, e2, e3, e4, e5, e6, e7, e8, e9, e10, e11, e12⟩ := hy.c13
    go_wp2_with fail
    go_ret
    exact ⟨_, rfl, fun h => absurd h hne.out, hb0⟩
  simp only [c4] at eM
  clear c4
  go_enter Try.func32, Try.ntmps32
  go_upto_region 1 with fail
  generalize (w.alloc (.cells #[.int .i64 x.r.k, .int .i64 x.r.pr, .int .i64 x.r.to, .int .i64 x.r.po, .int .i64 x.r.x.v, .int .i64 x.r.x.m, .int .u8 x.r.x.b0, .int .u8 x.r.x.b1, .int .u8 x.r.x.b2, .int .u8 x.r.x.i0, .int .u8 x.r.x.i1, .int .u8 x.r.x.i2, .slice x.A x.r.os.length x.c] 36)).alloc (.cells #[.int .i64 y.r.k, .int .i64 y.r.pr, .int .i64 y.r.to, .int .i64 y.r.po, .int .i64 y.r.x.v, .int .i64 y.r.x.m, .int .u8 y.r.x.b0, .int .u8 y.r.x.b1, .int .u8 y.r.x.b2, .int .u8 y.r.x.i0, .int .u8 y.r.x.i1, .int .u8 y.r.x.i2, .slice y.A y.r.os.length y.c] 36) = w0 at *
  obtain ⟨d0, d1, d2, d3, d4, d5, d6, d7, d8, d9, d10, d11, d12⟩ := hx.c13
  obtain ⟨e0, e1, e2, e3, e4, e5, e6, e7, e8, e9, e10, e11, e12⟩ := hy.c13
  go_wp2_with fail
  refine (equalO_any ha hb).mono ?_
  rintro e w1 ⟨rfl, hb1⟩
  go_wp2_with fail
  go_ret
  exact ⟨_, rfl, fun h => by rw [h]; simp, hb0.trans (hb1.mono hb0.size)⟩
end Go.Proofs.Ytlambnlehomkdaa.Oct
