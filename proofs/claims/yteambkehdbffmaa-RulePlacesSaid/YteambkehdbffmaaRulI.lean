/- The walk of RulePlaces. -/
import Derived.Test.YteambkehdbffmaaRulG
import Derived.Test.YteambkehdbffmaaRulP
import Derived.Deep.Cut
import Derived.Deep.CutRange
namespace Go.Proofs.Yteambkehdbffmaa.Oct
open Go.RowKit
set_option linter.unusedVariables false
set_option linter.unusedSimpArgs false

set_option maxRecDepth 100000 in
set_option maxHeartbeats 4000000 in
theorem place_any (x y : RuleV) (sx sy : Value) (w : World) : Calls Try.prog 12 #[.agg #[.int .i64 x.k, .int .i64 x.pr, .int .i64 x.to, .int .i64 x.po, .int .i64 x.x.v, .int .i64 x.x.m, .int .u8 x.x.b0, .int .u8 x.x.b1, .int .u8 x.x.b2, .int .u8 x.x.i0, .int .u8 x.x.i1, .int .u8 x.x.i2, sx], .agg #[.int .i64 y.k, .int .i64 y.pr, .int .i64 y.to, .int .i64 y.po, .int .i64 y.x.v, .int .i64 y.x.m, .int .u8 y.x.b0, .int .u8 y.x.b1, .int .u8 y.x.b2, .int .u8 y.x.i0, .int .u8 y.x.i1, .int .u8 y.x.i2, sy]] w fun e w' => e = .returned (.bool (placeB x y)) ∧ Below w.heap.size w w' := by
  have hx : Vb 28 ((w.alloc (.cells #[.int .i64 x.k, .int .i64 x.pr, .int .i64 x.to, .int .i64 x.po, .int .i64 x.x.v, .int .i64 x.x.m, .int .u8 x.x.b0, .int .u8 x.x.b1, .int .u8 x.x.b2, .int .u8 x.x.i0, .int .u8 x.x.i1, .int .u8 x.x.i2, sx] 28)).alloc (.cells #[.int .i64 y.k, .int .i64 y.pr, .int .i64 y.to, .int .i64 y.po, .int .i64 y.x.v, .int .i64 y.x.m, .int .u8 y.x.b0, .int .u8 y.x.b1, .int .u8 y.x.b2, .int .u8 y.x.i0, .int .u8 y.x.i1, .int .u8 y.x.i2, sy] 28)) w.heap.size [.int .i64 x.k, .int .i64 x.pr, .int .i64 x.to, .int .i64 x.po, .int .i64 x.x.v, .int .i64 x.x.m, .int .u8 x.x.b0, .int .u8 x.x.b1, .int .u8 x.x.b2, .int .u8 x.x.i0, .int .u8 x.x.i1, .int .u8 x.x.i2, sx] := (Vb.new 28 w [.int .i64 x.k, .int .i64 x.pr, .int .i64 x.to, .int .i64 x.po, .int .i64 x.x.v, .int .i64 x.x.m, .int .u8 x.x.b0, .int .u8 x.x.b1, .int .u8 x.x.b2, .int .u8 x.x.i0, .int .u8 x.x.i1, .int .u8 x.x.i2, sx]).alloc _
  have hy : Vb 28 ((w.alloc (.cells #[.int .i64 x.k, .int .i64 x.pr, .int .i64 x.to, .int .i64 x.po, .int .i64 x.x.v, .int .i64 x.x.m, .int .u8 x.x.b0, .int .u8 x.x.b1, .int .u8 x.x.b2, .int .u8 x.x.i0, .int .u8 x.x.i1, .int .u8 x.x.i2, sx] 28)).alloc (.cells #[.int .i64 y.k, .int .i64 y.pr, .int .i64 y.to, .int .i64 y.po, .int .i64 y.x.v, .int .i64 y.x.m, .int .u8 y.x.b0, .int .u8 y.x.b1, .int .u8 y.x.b2, .int .u8 y.x.i0, .int .u8 y.x.i1, .int .u8 y.x.i2, sy] 28)) (w.heap.size + 1) [.int .i64 y.k, .int .i64 y.pr, .int .i64 y.to, .int .i64 y.po, .int .i64 y.x.v, .int .i64 y.x.m, .int .u8 y.x.b0, .int .u8 y.x.b1, .int .u8 y.x.b2, .int .u8 y.x.i0, .int .u8 y.x.i1, .int .u8 y.x.i2, sy] := by have := Vb.new 28 (w.alloc (.cells #[.int .i64 x.k, .int .i64 x.pr, .int .i64 x.to, .int .i64 x.po, .int .i64 x.x.v, .int .i64 x.x.m, .int .u8 x.x.b0, .int .u8 x.x.b1, .int .u8 x.x.b2, .int .u8 x.x.i0, .int .u8 x.x.i1, .int .u8 x.x.i2, sx] 28)) [.int .i64 y.k, .int .i64 y.pr, .int .i64 y.to, .int .i64 y.po, .int .i64 y.x.v, .int .i64 y.x.m, .int .u8 y.x.b0, .int .u8 y.x.b1, .int .u8 y.x.b2, .int .u8 y.x.i0, .int .u8 y.x.i1, .int .u8 y.x.i2, sy]; simpa using this
  have hB0 := below_two w (.cells #[.int .i64 x.k, .int .i64 x.pr, .int .i64 x.to, .int .i64 x.po, .int .i64 x.x.v, .int .i64 x.x.m, .int .u8 x.x.b0, .int .u8 x.x.b1, .int .u8 x.x.b2, .int .u8 x.x.i0, .int .u8 x.x.i1, .int .u8 x.x.i2, sx] 28) (.cells #[.int .i64 y.k, .int .i64 y.pr, .int .i64 y.to, .int .i64 y.po, .int .i64 y.x.v, .int .i64 y.x.m, .int .u8 y.x.b0, .int .u8 y.x.b1, .int .u8 y.x.b2, .int .u8 y.x.i0, .int .u8 y.x.i1, .int .u8 y.x.i2, sy] 28)
  have eM : ∀ w, (Op.equalIn 10000 25 (.agg #[.int .i64 x.x.v, .int .i64 x.x.m, .int .u8 x.x.b0, .int .u8 x.x.b1, .int .u8 x.x.b2, .int .u8 x.x.i0, .int .u8 x.x.i1, .int .u8 x.x.i2]) (.agg #[.int .i64 y.x.v, .int .i64 y.x.m, .int .u8 y.x.b0, .int .u8 y.x.b1, .int .u8 y.x.b2, .int .u8 y.x.i0, .int .u8 y.x.i1, .int .u8 y.x.i2])).run Try.prog w = .ok (eqMB x.x y.x) w := fun w => eq_mask x.x y.x w
  obtain ⟨d0, d1, d2, d3, d4, d5, d6, d7, d8, d9, d10, d11, d12⟩ := hx.c13
  obtain ⟨e0, e1, e2, e3, e4, e5, e6, e7, e8, e9, e10, e11, e12⟩ := hy.c13
  clear hx hy
  by_cases hk : x.k = y.k
  rotate_left
  · have hp := Kp.mk (show placeB x y = false from if_neg hk)
    have h1 : (x.k != y.k) = true := by simpa using hk
    clear hk
    go_enter Try.func12, Try.ntmps12
    go_wp2_with fail
    rw [hp.out]
    go_ret
    exact ⟨rfl, hB0⟩
  have h1 : (x.k != y.k) = false := by simpa using hk
  by_cases k1 : x.k = 1
  rotate_left
  · have hp := Kp.mk (show placeB x y = (x.to == y.to) by unfold placeB; rw [if_pos hk, if_neg k1])
    have h2 : (x.k == 1) = false := by simpa using k1
    clear hk k1
    go_enter Try.func12, Try.ntmps12
    go_wp2_with fail
    rw [hp.out]
    go_ret
    exact ⟨rfl, hB0⟩
  have h2 : (x.k == 1) = true := by simpa using k1
  by_cases hq : x.pr = y.pr
  rotate_left
  · have h3 : (x.pr == y.pr) = false := by simpa using hq
    have hp := Kp.mk (show placeB x y = false by unfold placeB; rw [if_pos hk, if_pos k1, h3]; rfl)
    clear hk k1 hq
    go_enter Try.func12, Try.ntmps12
    go_wp2_with fail
    rw [hp.out]
    go_ret
    exact ⟨rfl, hB0⟩
  have h3 : (x.pr == y.pr) = true := by simpa using hq
  have hp := Kp.mk (show placeB x y = eqMB x.x y.x by unfold placeB; rw [if_pos hk, if_pos k1, h3]; rfl)
  clear hk k1 hq
  go_enter Try.func12, Try.ntmps12
  go_wp2_with fail
  rw [hp.out]
  go_ret
  exact ⟨rfl, hB0⟩
set_option maxRecDepth 100000 in
set_option maxHeartbeats 16000000 in
theorem rulePlaces_any (x y z : RuleV) (A1 : Option Addr) (n1 c1 : Nat) (A2 : Option Addr) (n2 c2 : Nat) (A3 : Option Addr) (n3 c3 : Nat) (w : World) : Calls Try.prog 4 #[.agg #[.int .i64 x.k, .int .i64 x.pr, .int .i64 x.to, .int .i64 x.po, .int .i64 x.x.v, .int .i64 x.x.m, .int .u8 x.x.b0, .int .u8 x.x.b1, .int .u8 x.x.b2, .int .u8 x.x.i0, .int .u8 x.x.i1, .int .u8 x.x.i2, .slice A1 n1 c1, .int .i64 y.k, .int .i64 y.pr, .int .i64 y.to, .int .i64 y.po, .int .i64 y.x.v, .int .i64 y.x.m, .int .u8 y.x.b0, .int .u8 y.x.b1, .int .u8 y.x.b2, .int .u8 y.x.i0, .int .u8 y.x.i1, .int .u8 y.x.i2, .slice A2 n2 c2, .int .i64 z.k, .int .i64 z.pr, .int .i64 z.to, .int .i64 z.po, .int .i64 z.x.v, .int .i64 z.x.m, .int .u8 z.x.b0, .int .u8 z.x.b1, .int .u8 z.x.b2, .int .u8 z.x.i0, .int .u8 z.x.i1, .int .u8 z.x.i2, .slice A3 n3 c3]] w fun e w' => e = .returned (.bool true) ∧ Below w.heap.size w w' := by
  have ha := Vb.new 35 w [.int .i64 x.k, .int .i64 x.pr, .int .i64 x.to, .int .i64 x.po, .int .i64 x.x.v, .int .i64 x.x.m, .int .u8 x.x.b0, .int .u8 x.x.b1, .int .u8 x.x.b2, .int .u8 x.x.i0, .int .u8 x.x.i1, .int .u8 x.x.i2, .slice A1 n1 c1, .int .i64 y.k, .int .i64 y.pr, .int .i64 y.to, .int .i64 y.po, .int .i64 y.x.v, .int .i64 y.x.m, .int .u8 y.x.b0, .int .u8 y.x.b1, .int .u8 y.x.b2, .int .u8 y.x.i0, .int .u8 y.x.i1, .int .u8 y.x.i2, .slice A2 n2 c2, .int .i64 z.k, .int .i64 z.pr, .int .i64 z.to, .int .i64 z.po, .int .i64 z.x.v, .int .i64 z.x.m, .int .u8 z.x.b0, .int .u8 z.x.b1, .int .u8 z.x.b2, .int .u8 z.x.i0, .int .u8 z.x.i1, .int .u8 z.x.i2, .slice A3 n3 c3]
  have hB := below_alloc w (.cells #[.int .i64 x.k, .int .i64 x.pr, .int .i64 x.to, .int .i64 x.po, .int .i64 x.x.v, .int .i64 x.x.m, .int .u8 x.x.b0, .int .u8 x.x.b1, .int .u8 x.x.b2, .int .u8 x.x.i0, .int .u8 x.x.i1, .int .u8 x.x.i2, .slice A1 n1 c1, .int .i64 y.k, .int .i64 y.pr, .int .i64 y.to, .int .i64 y.po, .int .i64 y.x.v, .int .i64 y.x.m, .int .u8 y.x.b0, .int .u8 y.x.b1, .int .u8 y.x.b2, .int .u8 y.x.i0, .int .u8 y.x.i1, .int .u8 y.x.i2, .slice A2 n2 c2, .int .i64 z.k, .int .i64 z.pr, .int .i64 z.to, .int .i64 z.po, .int .i64 z.x.v, .int .i64 z.x.m, .int .u8 z.x.b0, .int .u8 z.x.b1, .int .u8 z.x.b2, .int .u8 z.x.i0, .int .u8 z.x.i1, .int .u8 z.x.i2, .slice A3 n3 c3] 35)
  go_enter Try.func4, Try.ntmps4
  go_upto_region 1 with fail
  generalize w.alloc (.cells #[.int .i64 x.k, .int .i64 x.pr, .int .i64 x.to, .int .i64 x.po, .int .i64 x.x.v, .int .i64 x.x.m, .int .u8 x.x.b0, .int .u8 x.x.b1, .int .u8 x.x.b2, .int .u8 x.x.i0, .int .u8 x.x.i1, .int .u8 x.x.i2, .slice A1 n1 c1, .int .i64 y.k, .int .i64 y.pr, .int .i64 y.to, .int .i64 y.po, .int .i64 y.x.v, .int .i64 y.x.m, .int .u8 y.x.b0, .int .u8 y.x.b1, .int .u8 y.x.b2, .int .u8 y.x.i0, .int .u8 y.x.i1, .int .u8 y.x.i2, .slice A2 n2 c2, .int .i64 z.k, .int .i64 z.pr, .int .i64 z.to, .int .i64 z.po, .int .i64 z.x.v, .int .i64 z.x.m, .int .u8 z.x.b0, .int .u8 z.x.b1, .int .u8 z.x.b2, .int .u8 z.x.i0, .int .u8 z.x.i1, .int .u8 z.x.i2, .slice A3 n3 c3] 35) = w0 at *
  go_wp2_with fail
  refine (worksR_any _).mono ?_
  rintro e w1 ⟨rfl, hb⟩
  replace ha := ha.below hb ha.lt
  replace hB := hB.trans (hb.mono hB.size)
  clear hb
  go_wp2_with fail
  go_loopw [3] (fun i wr => ∃ k : Nat, k ≤ 3 ∧ i = .int .i64 k ∧ Vb 35 wr w.heap.size [.int .i64 x.k, .int .i64 x.pr, .int .i64 x.to, .int .i64 x.po, .int .i64 x.x.v, .int .i64 x.x.m, .int .u8 x.x.b0, .int .u8 x.x.b1, .int .u8 x.x.b2, .int .u8 x.x.i0, .int .u8 x.x.i1, .int .u8 x.x.i2, .slice A1 n1 c1, .int .i64 y.k, .int .i64 y.pr, .int .i64 y.to, .int .i64 y.po, .int .i64 y.x.v, .int .i64 y.x.m, .int .u8 y.x.b0, .int .u8 y.x.b1, .int .u8 y.x.b2, .int .u8 y.x.i0, .int .u8 y.x.i1, .int .u8 y.x.i2, .slice A2 n2 c2, .int .i64 z.k, .int .i64 z.pr, .int .i64 z.to, .int .i64 z.po, .int .i64 z.x.v, .int .i64 z.x.m, .int .u8 z.x.b0, .int .u8 z.x.b1, .int .u8 z.x.b2, .int .u8 z.x.i0, .int .u8 z.x.i1, .int .u8 z.x.i2, .slice A3 n3 c3] ∧ Below w.heap.size w wr) (fun i _ => 3 - (intOf i).toNat)
  case atStart => exact ⟨0, by omega, rfl, ha, hB⟩
  case round =>
    clear ha hB
    obtain ⟨k, hk, rfl, ha, hB⟩ := hrel
    by_cases hlt : k < 3
    rotate_left
    · obtain rfl : k = 3 := by omega
      go_wp2_with fail
      go_ret
      exact ⟨rfl, hB⟩
    have j1 : (k : Int) < 3 := by omega
    go_upto_region 6 with fail
    go_cut [4, 5, 6] from 10 to 111 (fun p q r wx => ∃ (X Y Z : RuleV) (SX SY SZ : Value) (q4 q5 q6 : Nat), p = .pointer (some ⟨q4, 0, none⟩) ∧ q = .pointer (some ⟨q5, 0, none⟩) ∧ r = .pointer (some ⟨q6, 0, none⟩) ∧ (Vb 28 wx q4 [.int .i64 X.k, .int .i64 X.pr, .int .i64 X.to, .int .i64 X.po, .int .i64 X.x.v, .int .i64 X.x.m, .int .u8 X.x.b0, .int .u8 X.x.b1, .int .u8 X.x.b2, .int .u8 X.x.i0, .int .u8 X.x.i1, .int .u8 X.x.i2, SX] ∧ Vb 28 wx q5 [.int .i64 Y.k, .int .i64 Y.pr, .int .i64 Y.to, .int .i64 Y.po, .int .i64 Y.x.v, .int .i64 Y.x.m, .int .u8 Y.x.b0, .int .u8 Y.x.b1, .int .u8 Y.x.b2, .int .u8 Y.x.i0, .int .u8 Y.x.i1, .int .u8 Y.x.i2, SY] ∧ Vb 28 wx q6 [.int .i64 Z.k, .int .i64 Z.pr, .int .i64 Z.to, .int .i64 Z.po, .int .i64 Z.x.v, .int .i64 Z.x.m, .int .u8 Z.x.b0, .int .u8 Z.x.b1, .int .u8 Z.x.b2, .int .u8 Z.x.i0, .int .u8 Z.x.i1, .int .u8 Z.x.i2, SZ]) ∧ Vb 35 wx w.heap.size [.int .i64 x.k, .int .i64 x.pr, .int .i64 x.to, .int .i64 x.po, .int .i64 x.x.v, .int .i64 x.x.m, .int .u8 x.x.b0, .int .u8 x.x.b1, .int .u8 x.x.b2, .int .u8 x.x.i0, .int .u8 x.x.i1, .int .u8 x.x.i2, .slice A1 n1 c1, .int .i64 y.k, .int .i64 y.pr, .int .i64 y.to, .int .i64 y.po, .int .i64 y.x.v, .int .i64 y.x.m, .int .u8 y.x.b0, .int .u8 y.x.b1, .int .u8 y.x.b2, .int .u8 y.x.i0, .int .u8 y.x.i1, .int .u8 y.x.i2, .slice A2 n2 c2, .int .i64 z.k, .int .i64 z.pr, .int .i64 z.to, .int .i64 z.po, .int .i64 z.x.v, .int .i64 z.x.m, .int .u8 z.x.b0, .int .u8 z.x.b1, .int .u8 z.x.b2, .int .u8 z.x.i0, .int .u8 z.x.i1, .int .u8 z.x.i2, .slice A3 n3 c3] ∧ Below w.heap.size w wx)
    case first => as_aux_lemma =>
      have hd0 : Below wr.heap.size wr wr.drew := (Below.refl _ _).drew
      have hlw := ha.lt
      have hS0 : (fun W => Vb 35 W w.heap.size [.int .i64 x.k, .int .i64 x.pr, .int .i64 x.to, .int .i64 x.po, .int .i64 x.x.v, .int .i64 x.x.m, .int .u8 x.x.b0, .int .u8 x.x.b1, .int .u8 x.x.b2, .int .u8 x.x.i0, .int .u8 x.x.i1, .int .u8 x.x.i2, .slice A1 n1 c1, .int .i64 y.k, .int .i64 y.pr, .int .i64 y.to, .int .i64 y.po, .int .i64 y.x.v, .int .i64 y.x.m, .int .u8 y.x.b0, .int .u8 y.x.b1, .int .u8 y.x.b2, .int .u8 y.x.i0, .int .u8 y.x.i1, .int .u8 y.x.i2, .slice A2 n2 c2, .int .i64 z.k, .int .i64 z.pr, .int .i64 z.to, .int .i64 z.po, .int .i64 z.x.v, .int .i64 z.x.m, .int .u8 z.x.b0, .int .u8 z.x.b1, .int .u8 z.x.b2, .int .u8 z.x.i0, .int .u8 z.x.i1, .int .u8 z.x.i2, .slice A3 n3 c3]) wr.drew := ha.below hd0 hlw
      have hB1 : Below w.heap.size w wr.drew := hB.trans (hd0.mono hB.size)
      have hw0 : w.heap.size + 1 ≤ wr.drew.heap.size := by have := hd0.size; omega
      clear ha hd0 hB
      obtain rfl | rfl | rfl : k = 0 ∨ k = 1 ∨ k = 2 := by omega
      · refine wp_region_held_drew (S := fun W => Vb 35 W w.heap.size [.int .i64 x.k, .int .i64 x.pr, .int .i64 x.to, .int .i64 x.po, .int .i64 x.x.v, .int .i64 x.x.m, .int .u8 x.x.b0, .int .u8 x.x.b1, .int .u8 x.x.b2, .int .u8 x.x.i0, .int .u8 x.x.i1, .int .u8 x.x.i2, .slice A1 n1 c1, .int .i64 y.k, .int .i64 y.pr, .int .i64 y.to, .int .i64 y.po, .int .i64 y.x.v, .int .i64 y.x.m, .int .u8 y.x.b0, .int .u8 y.x.b1, .int .u8 y.x.b2, .int .u8 y.x.i0, .int .u8 y.x.i1, .int .u8 y.x.i2, .slice A2 n2 c2, .int .i64 z.k, .int .i64 z.pr, .int .i64 z.to, .int .i64 z.po, .int .i64 z.x.v, .int .i64 z.x.m, .int .u8 z.x.b0, .int .u8 z.x.b1, .int .u8 z.x.b2, .int .u8 z.x.i0, .int .u8 z.x.i1, .int .u8 z.x.i2, .slice A3 n3 c3]) (by kernel_rfl) hS0 (fun _ => ?_)
        generalize wr.drew = u0 at *
        have hB : Below (w.heap.size + 1) u0 u0 := Below.refl _ _
        refine takeD (i := 0) (v := .int .i64 0) (some 14) rfl rfl (by kernel_rfl) (by kernel_rfl) (by kernel_rfl) (fun _ _ _ h => h) (Or.inl ⟨by rfl, ?_⟩) hS0 ?_
        · rintro w' s0
          go_simp
          try rfl
        try simp only [Act.put, List.setIfInBounds_toArray, List.set_cons_zero, List.set_cons_succ]
        refine takeD (i := 1) (v := .pointer (some ⟨w.heap.size, 0, none⟩)) (some 15) rfl rfl (by kernel_rfl) (by kernel_rfl) (by kernel_rfl) (fun _ _ _ h => h) (Or.inl ⟨by rfl, ?_⟩) hS0 ?_
        · rintro w' s0
          go_simp
          try rfl
        try simp only [Act.put, List.setIfInBounds_toArray, List.set_cons_zero, List.set_cons_succ]
        refine takeD (i := 2) (v := .agg #[.int .i64 x.k, .int .i64 x.pr, .int .i64 x.to, .int .i64 x.po, .int .i64 x.x.v, .int .i64 x.x.m, .int .u8 x.x.b0, .int .u8 x.x.b1, .int .u8 x.x.b2, .int .u8 x.x.i0, .int .u8 x.x.i1, .int .u8 x.x.i2, .slice A1 n1 c1]) (some 16) rfl rfl (by kernel_rfl) (by kernel_rfl) (by kernel_rfl) (fun _ _ _ h => h) (Or.inl ⟨by rfl, ?_⟩) hS0 ?_
        · rintro w' s0
          have d0 := s0.cell 0 rfl
          have d1 := s0.cell 1 rfl
          have d2 := s0.cell 2 rfl
          have d3 := s0.cell 3 rfl
          have d4 := s0.cell 4 rfl
          have d5 := s0.cell 5 rfl
          have d6 := s0.cell 6 rfl
          have d7 := s0.cell 7 rfl
          have d8 := s0.cell 8 rfl
          have d9 := s0.cell 9 rfl
          have d10 := s0.cell 10 rfl
          have d11 := s0.cell 11 rfl
          have d12 := s0.cell 12 rfl
          go_simp
          try rfl
        try simp only [Act.put, List.setIfInBounds_toArray, List.set_cons_zero, List.set_cons_succ]
        refine takeD (i := 3) (v := .int .i64 0) (some 17) rfl rfl (by kernel_rfl) (by kernel_rfl) (by kernel_rfl) (fun _ _ _ h => h) (Or.inl ⟨by rfl, ?_⟩) hS0 ?_
        · rintro w' s0
          go_simp
          try rfl
        try simp only [Act.put, List.setIfInBounds_toArray, List.set_cons_zero, List.set_cons_succ]
        refine takeD (i := 4) (v := .int .i64 1) (some 18) rfl rfl (by kernel_rfl) (by kernel_rfl) (by kernel_rfl) (fun _ _ _ h => h) (Or.inl ⟨by rfl, ?_⟩) hS0 ?_
        · rintro w' s0
          go_simp
          try rfl
        try simp only [Act.put, List.setIfInBounds_toArray, List.set_cons_zero, List.set_cons_succ]
        refine takeD (i := 5) (v := .int .i64 1) (some 19) rfl rfl (by kernel_rfl) (by kernel_rfl) (by kernel_rfl) (fun _ _ _ h => h) (Or.inl ⟨by rfl, ?_⟩) hS0 ?_
        · rintro w' s0
          go_simp
          try rfl
        try simp only [Act.put, List.setIfInBounds_toArray, List.set_cons_zero, List.set_cons_succ]
        refine takeD (i := 6) (v := .pointer (some ⟨w.heap.size, 13, none⟩)) (some 20) rfl rfl (by kernel_rfl) (by kernel_rfl) (by kernel_rfl) (fun _ _ _ h => h) (Or.inl ⟨by rfl, ?_⟩) hS0 ?_
        · rintro w' s0
          go_simp
          try rfl
        try simp only [Act.put, List.setIfInBounds_toArray, List.set_cons_zero, List.set_cons_succ]
        refine takeD (i := 7) (v := .agg #[.int .i64 y.k, .int .i64 y.pr, .int .i64 y.to, .int .i64 y.po, .int .i64 y.x.v, .int .i64 y.x.m, .int .u8 y.x.b0, .int .u8 y.x.b1, .int .u8 y.x.b2, .int .u8 y.x.i0, .int .u8 y.x.i1, .int .u8 y.x.i2, .slice A2 n2 c2]) (some 21) rfl rfl (by kernel_rfl) (by kernel_rfl) (by kernel_rfl) (fun _ _ _ h => h) (Or.inl ⟨by rfl, ?_⟩) hS0 ?_
        · rintro w' s0
          have d0 := s0.cell 13 rfl
          have d1 := s0.cell 14 rfl
          have d2 := s0.cell 15 rfl
          have d3 := s0.cell 16 rfl
          have d4 := s0.cell 17 rfl
          have d5 := s0.cell 18 rfl
          have d6 := s0.cell 19 rfl
          have d7 := s0.cell 20 rfl
          have d8 := s0.cell 21 rfl
          have d9 := s0.cell 22 rfl
          have d10 := s0.cell 23 rfl
          have d11 := s0.cell 24 rfl
          have d12 := s0.cell 25 rfl
          go_simp
          try rfl
        try simp only [Act.put, List.setIfInBounds_toArray, List.set_cons_zero, List.set_cons_succ]
        refine takeD (i := 8) (v := .int .i64 0) (some 22) rfl rfl (by kernel_rfl) (by kernel_rfl) (by kernel_rfl) (fun _ _ _ h => h) (Or.inl ⟨by rfl, ?_⟩) hS0 ?_
        · rintro w' s0
          go_simp
          try rfl
        try simp only [Act.put, List.setIfInBounds_toArray, List.set_cons_zero, List.set_cons_succ]
        refine takeD (i := 9) (v := .int .i64 2) (some 23) rfl rfl (by kernel_rfl) (by kernel_rfl) (by kernel_rfl) (fun _ _ _ h => h) (Or.inl ⟨by rfl, ?_⟩) hS0 ?_
        · rintro w' s0
          go_simp
          try rfl
        try simp only [Act.put, List.setIfInBounds_toArray, List.set_cons_zero, List.set_cons_succ]
        refine takeD (i := 10) (v := .int .i64 2) (some 24) rfl rfl (by kernel_rfl) (by kernel_rfl) (by kernel_rfl) (fun _ _ _ h => h) (Or.inl ⟨by rfl, ?_⟩) hS0 ?_
        · rintro w' s0
          go_simp
          try rfl
        try simp only [Act.put, List.setIfInBounds_toArray, List.set_cons_zero, List.set_cons_succ]
        refine takeD (i := 11) (v := .pointer (some ⟨w.heap.size, 26, none⟩)) (some 25) rfl rfl (by kernel_rfl) (by kernel_rfl) (by kernel_rfl) (fun _ _ _ h => h) (Or.inl ⟨by rfl, ?_⟩) hS0 ?_
        · rintro w' s0
          go_simp
          try rfl
        try simp only [Act.put, List.setIfInBounds_toArray, List.set_cons_zero, List.set_cons_succ]
        refine takeD (i := 12) (v := .agg #[.int .i64 z.k, .int .i64 z.pr, .int .i64 z.to, .int .i64 z.po, .int .i64 z.x.v, .int .i64 z.x.m, .int .u8 z.x.b0, .int .u8 z.x.b1, .int .u8 z.x.b2, .int .u8 z.x.i0, .int .u8 z.x.i1, .int .u8 z.x.i2, .slice A3 n3 c3]) (some 26) rfl rfl (by kernel_rfl) (by kernel_rfl) (by kernel_rfl) (fun _ _ _ h => h) (Or.inl ⟨by rfl, ?_⟩) hS0 ?_
        · rintro w' s0
          have d0 := s0.cell 26 rfl
          have d1 := s0.cell 27 rfl
          have d2 := s0.cell 28 rfl
          have d3 := s0.cell 29 rfl
          have d4 := s0.cell 30 rfl
          have d5 := s0.cell 31 rfl
          have d6 := s0.cell 32 rfl
          have d7 := s0.cell 33 rfl
          have d8 := s0.cell 34 rfl
          have d9 := s0.cell 35 rfl
          have d10 := s0.cell 36 rfl
          have d11 := s0.cell 37 rfl
          have d12 := s0.cell 38 rfl
          go_simp
          try rfl
        try simp only [Act.put, List.setIfInBounds_toArray, List.set_cons_zero, List.set_cons_succ]
        refine wpAnyH_ready (rs := [13, 14, 15]) (by kernel_rfl) (by simp) ?_
        refine AllReadyH.cons rfl (fun K hK => ?_) (AllReadyH.cons rfl (fun K hK => ?_) (AllReadyH.cons rfl (fun K hK => ?_) AllReadyH.nil))
        · try rw [if_pos (by rfl)]
          go_simp
          have hb := below_alloc u0 (.cells #[.int .i64 0, .int .i64 0, .int .i64 0, .int .i64 0, .int .i64 0, .int .i64 0, .int .u8 0, .int .u8 0, .int .u8 0, .int .u8 0, .int .u8 0, .int .u8 0, .slice none 0 0] 28)
          have hz4 := Vb.new 28 u0 [.int .i64 0, .int .i64 0, .int .i64 0, .int .i64 0, .int .i64 0, .int .i64 0, .int .u8 0, .int .u8 0, .int .u8 0, .int .u8 0, .int .u8 0, .int .u8 0, .slice none 0 0]
          have hS1 := Vb.alloc hS0 (.cells #[.int .i64 0, .int .i64 0, .int .i64 0, .int .i64 0, .int .i64 0, .int .i64 0, .int .u8 0, .int .u8 0, .int .u8 0, .int .u8 0, .int .u8 0, .int .u8 0, .slice none 0 0] 28)
          have hl4 := hw0
          replace hB := hB.trans (hb.mono hw0)
          replace hw0 := Nat.le_trans hw0 hb.size
          refine hK.out _ _ hS1 (fun _ => ?_)
          clear hK K hb
          try simp only [Act.put, List.setIfInBounds_toArray, List.set_cons_zero, List.set_cons_succ]
          clear hS0
          generalize hu1 : u0.alloc (.cells #[.int .i64 0, .int .i64 0, .int .i64 0, .int .i64 0, .int .i64 0, .int .i64 0, .int .u8 0, .int .u8 0, .int .u8 0, .int .u8 0, .int .u8 0, .int .u8 0, .slice none 0 0] 28) = v1 at *
          generalize u0.heap.size = q4 at *
          clear hu1
          refine wpAnyH_ready (rs := [14, 15]) (by kernel_rfl) (by simp) ?_
          refine AllReadyH.cons rfl (fun K hK => ?_) (AllReadyH.cons rfl (fun K hK => ?_) AllReadyH.nil)
          · try rw [if_pos (by rfl)]
            go_simp
            have hb := below_alloc v1 (.cells #[.int .i64 0, .int .i64 0, .int .i64 0, .int .i64 0, .int .i64 0, .int .i64 0, .int .u8 0, .int .u8 0, .int .u8 0, .int .u8 0, .int .u8 0, .int .u8 0, .slice none 0 0] 28)
            have hz5 := Vb.new 28 v1 [.int .i64 0, .int .i64 0, .int .i64 0, .int .i64 0, .int .i64 0, .int .i64 0, .int .u8 0, .int .u8 0, .int .u8 0, .int .u8 0, .int .u8 0, .int .u8 0, .slice none 0 0]
            have hS2 := Vb.alloc hS1 (.cells #[.int .i64 0, .int .i64 0, .int .i64 0, .int .i64 0, .int .i64 0, .int .i64 0, .int .u8 0, .int .u8 0, .int .u8 0, .int .u8 0, .int .u8 0, .int .u8 0, .slice none 0 0] 28)
            have hl5 := hw0
            have hlt4_5 := hz4.lt
            replace hz4 := hz4.alloc (.cells #[.int .i64 0, .int .i64 0, .int .i64 0, .int .i64 0, .int .i64 0, .int .i64 0, .int .u8 0, .int .u8 0, .int .u8 0, .int .u8 0, .int .u8 0, .int .u8 0, .slice none 0 0] 28)
            replace hB := hB.trans (hb.mono hw0)
            replace hw0 := Nat.le_trans hw0 hb.size
            refine hK.out _ _ hS2 (fun _ => ?_)
            clear hK K hb
            try simp only [Act.put, List.setIfInBounds_toArray, List.set_cons_zero, List.set_cons_succ]
            clear hS1
            generalize hu2 : v1.alloc (.cells #[.int .i64 0, .int .i64 0, .int .i64 0, .int .i64 0, .int .i64 0, .int .i64 0, .int .u8 0, .int .u8 0, .int .u8 0, .int .u8 0, .int .u8 0, .int .u8 0, .slice none 0 0] 28) = v2 at *
            generalize v1.heap.size = q5 at *
            clear hu2
            refine wpAnyH_ready (rs := [15]) (by kernel_rfl) (by simp) ?_
            refine AllReadyH.cons rfl (fun K hK => ?_) AllReadyH.nil
            · try rw [if_pos (by rfl)]
              go_simp
              have hb := below_alloc v2 (.cells #[.int .i64 0, .int .i64 0, .int .i64 0, .int .i64 0, .int .i64 0, .int .i64 0, .int .u8 0, .int .u8 0, .int .u8 0, .int .u8 0, .int .u8 0, .int .u8 0, .slice none 0 0] 28)
              have hz6 := Vb.new 28 v2 [.int .i64 0, .int .i64 0, .int .i64 0, .int .i64 0, .int .i64 0, .int .i64 0, .int .u8 0, .int .u8 0, .int .u8 0, .int .u8 0, .int .u8 0, .int .u8 0, .slice none 0 0]
              have hS3 := Vb.alloc hS2 (.cells #[.int .i64 0, .int .i64 0, .int .i64 0, .int .i64 0, .int .i64 0, .int .i64 0, .int .u8 0, .int .u8 0, .int .u8 0, .int .u8 0, .int .u8 0, .int .u8 0, .slice none 0 0] 28)
              have hl6 := hw0
              have hlt4_6 := hz4.lt
              have hlt5_6 := hz5.lt
              replace hz4 := hz4.alloc (.cells #[.int .i64 0, .int .i64 0, .int .i64 0, .int .i64 0, .int .i64 0, .int .i64 0, .int .u8 0, .int .u8 0, .int .u8 0, .int .u8 0, .int .u8 0, .int .u8 0, .slice none 0 0] 28)
              replace hz5 := hz5.alloc (.cells #[.int .i64 0, .int .i64 0, .int .i64 0, .int .i64 0, .int .i64 0, .int .i64 0, .int .u8 0, .int .u8 0, .int .u8 0, .int .u8 0, .int .u8 0, .int .u8 0, .slice none 0 0] 28)
              replace hB := hB.trans (hb.mono hw0)
              replace hw0 := Nat.le_trans hw0 hb.size
              refine hK.out _ _ hS3 (fun _ => ?_)
              clear hK K hb
              try simp only [Act.put, List.setIfInBounds_toArray, List.set_cons_zero, List.set_cons_succ]
              clear hS2
              generalize hu3 : v2.alloc (.cells #[.int .i64 0, .int .i64 0, .int .i64 0, .int .i64 0, .int .i64 0, .int .i64 0, .int .u8 0, .int .u8 0, .int .u8 0, .int .u8 0, .int .u8 0, .int .u8 0, .slice none 0 0] 28) = v3 at *
              generalize v2.heap.size = q6 at *
              clear hu3
              refine wpAnyH_ready (rs := [16]) (by kernel_rfl) (by simp) ?_
              refine AllReadyH.cons rfl (fun K hK => ?_) AllReadyH.nil
              · try rw [if_pos (by rfl)]
                refine wp_store_vb' (T := 28) (vs := [.int .i64 x.k, .int .i64 x.pr, .int .i64 x.to, .int .i64 x.po, .int .i64 x.x.v, .int .i64 x.x.m, .int .u8 x.x.b0, .int .u8 x.x.b1, .int .u8 x.x.b2, .int .u8 x.x.i0, .int .u8 x.x.i1, .int .u8 x.x.i2, .slice A1 n1 c1]) none rfl (.tmp 4) (.tmp 16) rfl rfl rfl hz4 rfl agg_rule rfl ?_
                intro v4 hn hg hz
                have hS4 := Vb.grown hS3 hg (by omega)
                replace hz5 := hz5.grown hg (by omega)
                replace hz6 := hz6.grown hg (by omega)
                replace hz4 := hn
                replace hB : Below (w.heap.size + 1) u0 v4 := hB.grown hg hw0 (fun k e => by simp at e; omega)
                replace hw0 := Nat.le_trans hw0 hg.size
                refine hK.out _ _ hS4 (fun _ => ?_)
                clear hK K hn hg hz hS3
                try simp only [Act.put, List.setIfInBounds_toArray, List.set_cons_zero, List.set_cons_succ]
                refine wpAnyH_ready (rs := [17]) (by kernel_rfl) (by simp) ?_
                refine AllReadyH.cons rfl (fun K hK => ?_) AllReadyH.nil
                · try rw [if_pos (by rfl)]
                  refine wp_store_vb' (T := 28) (vs := [.int .i64 y.k, .int .i64 y.pr, .int .i64 y.to, .int .i64 y.po, .int .i64 y.x.v, .int .i64 y.x.m, .int .u8 y.x.b0, .int .u8 y.x.b1, .int .u8 y.x.b2, .int .u8 y.x.i0, .int .u8 y.x.i1, .int .u8 y.x.i2, .slice A2 n2 c2]) none rfl (.tmp 5) (.tmp 21) rfl rfl rfl hz5 rfl agg_rule rfl ?_
                  intro v5 hn hg hz
                  have hS5 := Vb.grown hS4 hg (by omega)
                  replace hz4 := hz4.grown hg (by omega)
                  replace hz6 := hz6.grown hg (by omega)
                  replace hz5 := hn
                  replace hB : Below (w.heap.size + 1) u0 v5 := hB.grown hg hw0 (fun k e => by simp at e; omega)
                  replace hw0 := Nat.le_trans hw0 hg.size
                  refine hK.out _ _ hS5 (fun _ => ?_)
                  clear hK K hn hg hz hS4
                  try simp only [Act.put, List.setIfInBounds_toArray, List.set_cons_zero, List.set_cons_succ]
                  refine wpAnyH_ready (rs := [18]) (by kernel_rfl) (by simp) ?_
                  refine AllReadyH.cons rfl (fun K hK => ?_) AllReadyH.nil
                  · try rw [if_pos (by rfl)]
                    refine wp_store_vb' (T := 28) (vs := [.int .i64 z.k, .int .i64 z.pr, .int .i64 z.to, .int .i64 z.po, .int .i64 z.x.v, .int .i64 z.x.m, .int .u8 z.x.b0, .int .u8 z.x.b1, .int .u8 z.x.b2, .int .u8 z.x.i0, .int .u8 z.x.i1, .int .u8 z.x.i2, .slice A3 n3 c3]) none rfl (.tmp 6) (.tmp 26) rfl rfl rfl hz6 rfl agg_rule rfl ?_
                    intro v6 hn hg hz
                    have hS6 := Vb.grown hS5 hg (by omega)
                    replace hz4 := hz4.grown hg (by omega)
                    replace hz5 := hz5.grown hg (by omega)
                    replace hz6 := hn
                    replace hB : Below (w.heap.size + 1) u0 v6 := hB.grown hg hw0 (fun k e => by simp at e; omega)
                    replace hw0 := Nat.le_trans hw0 hg.size
                    refine hK.out _ _ hS6 (fun _ => ?_)
                    clear hK K hn hg hz hS5
                    try simp only [Act.put, List.setIfInBounds_toArray, List.set_cons_zero, List.set_cons_succ]
                    refine wpAnyH_done (by kernel_rfl) ?_ _
                    have hS := hS6
                    go_wp2_with fail
                    go_meet
                    case rel => exact ⟨x, y, z, .slice A1 n1 c1, .slice A2 n2 c2, .slice A3 n3 c3, _, _, _, rfl, rfl, rfl, ⟨hz4, hz5, hz6⟩, hS, hB1.trans (hB.mono (by omega))⟩
          · try rw [if_pos (by rfl)]
            go_simp
            have hb := below_alloc v1 (.cells #[.int .i64 0, .int .i64 0, .int .i64 0, .int .i64 0, .int .i64 0, .int .i64 0, .int .u8 0, .int .u8 0, .int .u8 0, .int .u8 0, .int .u8 0, .int .u8 0, .slice none 0 0] 28)
            have hz6 := Vb.new 28 v1 [.int .i64 0, .int .i64 0, .int .i64 0, .int .i64 0, .int .i64 0, .int .i64 0, .int .u8 0, .int .u8 0, .int .u8 0, .int .u8 0, .int .u8 0, .int .u8 0, .slice none 0 0]
            have hS7 := Vb.alloc hS1 (.cells #[.int .i64 0, .int .i64 0, .int .i64 0, .int .i64 0, .int .i64 0, .int .i64 0, .int .u8 0, .int .u8 0, .int .u8 0, .int .u8 0, .int .u8 0, .int .u8 0, .slice none 0 0] 28)
            have hl6 := hw0
            have hlt4_6 := hz4.lt
            replace hz4 := hz4.alloc (.cells #[.int .i64 0, .int .i64 0, .int .i64 0, .int .i64 0, .int .i64 0, .int .i64 0, .int .u8 0, .int .u8 0, .int .u8 0, .int .u8 0, .int .u8 0, .int .u8 0, .slice none 0 0] 28)
            replace hB := hB.trans (hb.mono hw0)
            replace hw0 := Nat.le_trans hw0 hb.size
            refine hK.out _ _ hS7 (fun _ => ?_)
            clear hK K hb
            try simp only [Act.put, List.setIfInBounds_toArray, List.set_cons_zero, List.set_cons_succ]
            clear hS1
            generalize hu7 : v1.alloc (.cells #[.int .i64 0, .int .i64 0, .int .i64 0, .int .i64 0, .int .i64 0, .int .i64 0, .int .u8 0, .int .u8 0, .int .u8 0, .int .u8 0, .int .u8 0, .int .u8 0, .slice none 0 0] 28) = v7 at *
            generalize v1.heap.size = q6 at *
            clear hu7
            refine wpAnyH_ready (rs := [14]) (by kernel_rfl) (by simp) ?_
            refine AllReadyH.cons rfl (fun K hK => ?_) AllReadyH.nil
            · try rw [if_pos (by rfl)]
              go_simp
              have hb := below_alloc v7 (.cells #[.int .i64 0, .int .i64 0, .int .i64 0, .int .i64 0, .int .i64 0, .int .i64 0, .int .u8 0, .int .u8 0, .int .u8 0, .int .u8 0, .int .u8 0, .int .u8 0, .slice none 0 0] 28)
              have hz5 := Vb.new 28 v7 [.int .i64 0, .int .i64 0, .int .i64 0, .int .i64 0, .int .i64 0, .int .i64 0, .int .u8 0, .int .u8 0, .int .u8 0, .int .u8 0, .int .u8 0, .int .u8 0, .slice none 0 0]
              have hS8 := Vb.alloc hS7 (.cells #[.int .i64 0, .int .i64 0, .int .i64 0, .int .i64 0, .int .i64 0, .int .i64 0, .int .u8 0, .int .u8 0, .int .u8 0, .int .u8 0, .int .u8 0, .int .u8 0, .slice none 0 0] 28)
              have hl5 := hw0
              have hlt4_5 := hz4.lt
              have hlt6_5 := hz6.lt
              replace hz4 := hz4.alloc (.cells #[.int .i64 0, .int .i64 0, .int .i64 0, .int .i64 0, .int .i64 0, .int .i64 0, .int .u8 0, .int .u8 0, .int .u8 0, .int .u8 0, .int .u8 0, .int .u8 0, .slice none 0 0] 28)
              replace hz6 := hz6.alloc (.cells #[.int .i64 0, .int .i64 0, .int .i64 0, .int .i64 0, .int .i64 0, .int .i64 0, .int .u8 0, .int .u8 0, .int .u8 0, .int .u8 0, .int .u8 0, .int .u8 0, .slice none 0 0] 28)
              replace hB := hB.trans (hb.mono hw0)
              replace hw0 := Nat.le_trans hw0 hb.size
              refine hK.out _ _ hS8 (fun _ => ?_)
              clear hK K hb
              try simp only [Act.put, List.setIfInBounds_toArray, List.set_cons_zero, List.set_cons_succ]
              clear hS7
              generalize hu8 : v7.alloc (.cells #[.int .i64 0, .int .i64 0, .int .i64 0, .int .i64 0, .int .i64 0, .int .i64 0, .int .u8 0, .int .u8 0, .int .u8 0, .int .u8 0, .int .u8 0, .int .u8 0, .slice none 0 0] 28) = v8 at *
              generalize v7.heap.size = q5 at *
              clear hu8
              refine wpAnyH_ready (rs := [16]) (by kernel_rfl) (by simp) ?_
              refine AllReadyH.cons rfl (fun K hK => ?_) AllReadyH.nil
              · try rw [if_pos (by rfl)]
                refine wp_store_vb' (T := 28) (vs := [.int .i64 x.k, .int .i64 x.pr, .int .i64 x.to, .int .i64 x.po, .int .i64 x.x.v, .int .i64 x.x.m, .int .u8 x.x.b0, .int .u8 x.x.b1, .int .u8 x.x.b2, .int .u8 x.x.i0, .int .u8 x.x.i1, .int .u8 x.x.i2, .slice A1 n1 c1]) none rfl (.tmp 4) (.tmp 16) rfl rfl rfl hz4 rfl agg_rule rfl ?_
                intro v9 hn hg hz
                have hS9 := Vb.grown hS8 hg (by omega)
                replace hz6 := hz6.grown hg (by omega)
                replace hz5 := hz5.grown hg (by omega)
                replace hz4 := hn
                replace hB : Below (w.heap.size + 1) u0 v9 := hB.grown hg hw0 (fun k e => by simp at e; omega)
                replace hw0 := Nat.le_trans hw0 hg.size
                refine hK.out _ _ hS9 (fun _ => ?_)
                clear hK K hn hg hz hS8
                try simp only [Act.put, List.setIfInBounds_toArray, List.set_cons_zero, List.set_cons_succ]
                refine wpAnyH_ready (rs := [17]) (by kernel_rfl) (by simp) ?_
                refine AllReadyH.cons rfl (fun K hK => ?_) AllReadyH.nil
                · try rw [if_pos (by rfl)]
                  refine wp_store_vb' (T := 28) (vs := [.int .i64 y.k, .int .i64 y.pr, .int .i64 y.to, .int .i64 y.po, .int .i64 y.x.v, .int .i64 y.x.m, .int .u8 y.x.b0, .int .u8 y.x.b1, .int .u8 y.x.b2, .int .u8 y.x.i0, .int .u8 y.x.i1, .int .u8 y.x.i2, .slice A2 n2 c2]) none rfl (.tmp 5) (.tmp 21) rfl rfl rfl hz5 rfl agg_rule rfl ?_
                  intro v10 hn hg hz
                  have hS10 := Vb.grown hS9 hg (by omega)
                  replace hz4 := hz4.grown hg (by omega)
                  replace hz6 := hz6.grown hg (by omega)
                  replace hz5 := hn
                  replace hB : Below (w.heap.size + 1) u0 v10 := hB.grown hg hw0 (fun k e => by simp at e; omega)
                  replace hw0 := Nat.le_trans hw0 hg.size
                  refine hK.out _ _ hS10 (fun _ => ?_)
                  clear hK K hn hg hz hS9
                  try simp only [Act.put, List.setIfInBounds_toArray, List.set_cons_zero, List.set_cons_succ]
                  refine wpAnyH_ready (rs := [18]) (by kernel_rfl) (by simp) ?_
                  refine AllReadyH.cons rfl (fun K hK => ?_) AllReadyH.nil
                  · try rw [if_pos (by rfl)]
                    refine wp_store_vb' (T := 28) (vs := [.int .i64 z.k, .int .i64 z.pr, .int .i64 z.to, .int .i64 z.po, .int .i64 z.x.v, .int .i64 z.x.m, .int .u8 z.x.b0, .int .u8 z.x.b1, .int .u8 z.x.b2, .int .u8 z.x.i0, .int .u8 z.x.i1, .int .u8 z.x.i2, .slice A3 n3 c3]) none rfl (.tmp 6) (.tmp 26) rfl rfl rfl hz6 rfl agg_rule rfl ?_
                    intro v11 hn hg hz
                    have hS11 := Vb.grown hS10 hg (by omega)
                    replace hz4 := hz4.grown hg (by omega)
                    replace hz5 := hz5.grown hg (by omega)
                    replace hz6 := hn
                    replace hB : Below (w.heap.size + 1) u0 v11 := hB.grown hg hw0 (fun k e => by simp at e; omega)
                    replace hw0 := Nat.le_trans hw0 hg.size
                    refine hK.out _ _ hS11 (fun _ => ?_)
                    clear hK K hn hg hz hS10
                    try simp only [Act.put, List.setIfInBounds_toArray, List.set_cons_zero, List.set_cons_succ]
                    refine wpAnyH_done (by kernel_rfl) ?_ _
                    have hS := hS11
                    go_wp2_with fail
                    go_meet
                    case rel => exact ⟨x, y, z, .slice A1 n1 c1, .slice A2 n2 c2, .slice A3 n3 c3, _, _, _, rfl, rfl, rfl, ⟨hz4, hz5, hz6⟩, hS, hB1.trans (hB.mono (by omega))⟩
        · try rw [if_pos (by rfl)]
          go_simp
          have hb := below_alloc u0 (.cells #[.int .i64 0, .int .i64 0, .int .i64 0, .int .i64 0, .int .i64 0, .int .i64 0, .int .u8 0, .int .u8 0, .int .u8 0, .int .u8 0, .int .u8 0, .int .u8 0, .slice none 0 0] 28)
          have hz5 := Vb.new 28 u0 [.int .i64 0, .int .i64 0, .int .i64 0, .int .i64 0, .int .i64 0, .int .i64 0, .int .u8 0, .int .u8 0, .int .u8 0, .int .u8 0, .int .u8 0, .int .u8 0, .slice none 0 0]
          have hS12 := Vb.alloc hS0 (.cells #[.int .i64 0, .int .i64 0, .int .i64 0, .int .i64 0, .int .i64 0, .int .i64 0, .int .u8 0, .int .u8 0, .int .u8 0, .int .u8 0, .int .u8 0, .int .u8 0, .slice none 0 0] 28)
          have hl5 := hw0
          replace hB := hB.trans (hb.mono hw0)
          replace hw0 := Nat.le_trans hw0 hb.size
          refine hK.out _ _ hS12 (fun _ => ?_)
          clear hK K hb
          try simp only [Act.put, List.setIfInBounds_toArray, List.set_cons_zero, List.set_cons_succ]
          clear hS0
          generalize hu12 : u0.alloc (.cells #[.int .i64 0, .int .i64 0, .int .i64 0, .int .i64 0, .int .i64 0, .int .i64 0, .int .u8 0, .int .u8 0, .int .u8 0, .int .u8 0, .int .u8 0, .int .u8 0, .slice none 0 0] 28) = v12 at *
          generalize u0.heap.size = q5 at *
          clear hu12
          refine wpAnyH_ready (rs := [13, 15]) (by kernel_rfl) (by simp) ?_
          refine AllReadyH.cons rfl (fun K hK => ?_) (AllReadyH.cons rfl (fun K hK => ?_) AllReadyH.nil)
          · try rw [if_pos (by rfl)]
            go_simp
            have hb := below_alloc v12 (.cells #[.int .i64 0, .int .i64 0, .int .i64 0, .int .i64 0, .int .i64 0, .int .i64 0, .int .u8 0, .int .u8 0, .int .u8 0, .int .u8 0, .int .u8 0, .int .u8 0, .slice none 0 0] 28)
            have hz4 := Vb.new 28 v12 [.int .i64 0, .int .i64 0, .int .i64 0, .int .i64 0, .int .i64 0, .int .i64 0, .int .u8 0, .int .u8 0, .int .u8 0, .int .u8 0, .int .u8 0, .int .u8 0, .slice none 0 0]
            have hS13 := Vb.alloc hS12 (.cells #[.int .i64 0, .int .i64 0, .int .i64 0, .int .i64 0, .int .i64 0, .int .i64 0, .int .u8 0, .int .u8 0, .int .u8 0, .int .u8 0, .int .u8 0, .int .u8 0, .slice none 0 0] 28)
            have hl4 := hw0
            have hlt5_4 := hz5.lt
            replace hz5 := hz5.alloc (.cells #[.int .i64 0, .int .i64 0, .int .i64 0, .int .i64 0, .int .i64 0, .int .i64 0, .int .u8 0, .int .u8 0, .int .u8 0, .int .u8 0, .int .u8 0, .int .u8 0, .slice none 0 0] 28)
            replace hB := hB.trans (hb.mono hw0)
            replace hw0 := Nat.le_trans hw0 hb.size
            refine hK.out _ _ hS13 (fun _ => ?_)
            clear hK K hb
            try simp only [Act.put, List.setIfInBounds_toArray, List.set_cons_zero, List.set_cons_succ]
            clear hS12
            generalize hu13 : v12.alloc (.cells #[.int .i64 0, .int .i64 0, .int .i64 0, .int .i64 0, .int .i64 0, .int .i64 0, .int .u8 0, .int .u8 0, .int .u8 0, .int .u8 0, .int .u8 0, .int .u8 0, .slice none 0 0] 28) = v13 at *
            generalize v12.heap.size = q4 at *
            clear hu13
            refine wpAnyH_ready (rs := [15]) (by kernel_rfl) (by simp) ?_
            refine AllReadyH.cons rfl (fun K hK => ?_) AllReadyH.nil
            · try rw [if_pos (by rfl)]
              go_simp
              have hb := below_alloc v13 (.cells #[.int .i64 0, .int .i64 0, .int .i64 0, .int .i64 0, .int .i64 0, .int .i64 0, .int .u8 0, .int .u8 0, .int .u8 0, .int .u8 0, .int .u8 0, .int .u8 0, .slice none 0 0] 28)
              have hz6 := Vb.new 28 v13 [.int .i64 0, .int .i64 0, .int .i64 0, .int .i64 0, .int .i64 0, .int .i64 0, .int .u8 0, .int .u8 0, .int .u8 0, .int .u8 0, .int .u8 0, .int .u8 0, .slice none 0 0]
              have hS14 := Vb.alloc hS13 (.cells #[.int .i64 0, .int .i64 0, .int .i64 0, .int .i64 0, .int .i64 0, .int .i64 0, .int .u8 0, .int .u8 0, .int .u8 0, .int .u8 0, .int .u8 0, .int .u8 0, .slice none 0 0] 28)
              have hl6 := hw0
              have hlt5_6 := hz5.lt
              have hlt4_6 := hz4.lt
              replace hz5 := hz5.alloc (.cells #[.int .i64 0, .int .i64 0, .int .i64 0, .int .i64 0, .int .i64 0, .int .i64 0, .int .u8 0, .int .u8 0, .int .u8 0, .int .u8 0, .int .u8 0, .int .u8 0, .slice none 0 0] 28)
              replace hz4 := hz4.alloc (.cells #[.int .i64 0, .int .i64 0, .int .i64 0, .int .i64 0, .int .i64 0, .int .i64 0, .int .u8 0, .int .u8 0, .int .u8 0, .int .u8 0, .int .u8 0, .int .u8 0, .slice none 0 0] 28)
              replace hB := hB.trans (hb.mono hw0)
              replace hw0 := Nat.le_trans hw0 hb.size
              refine hK.out _ _ hS14 (fun _ => ?_)
              clear hK K hb
              try simp only [Act.put, List.setIfInBounds_toArray, List.set_cons_zero, List.set_cons_succ]
              clear hS13
              generalize hu14 : v13.alloc (.cells #[.int .i64 0, .int .i64 0, .int .i64 0, .int .i64 0, .int .i64 0, .int .i64 0, .int .u8 0, .int .u8 0, .int .u8 0, .int .u8 0, .int .u8 0, .int .u8 0, .slice none 0 0] 28) = v14 at *
              generalize v13.heap.size = q6 at *
              clear hu14
              refine wpAnyH_ready (rs := [16]) (by kernel_rfl) (by simp) ?_
              refine AllReadyH.cons rfl (fun K hK => ?_) AllReadyH.nil
              · try rw [if_pos (by rfl)]
                refine wp_store_vb' (T := 28) (vs := [.int .i64 x.k, .int .i64 x.pr, .int .i64 x.to, .int .i64 x.po, .int .i64 x.x.v, .int .i64 x.x.m, .int .u8 x.x.b0, .int .u8 x.x.b1, .int .u8 x.x.b2, .int .u8 x.x.i0, .int .u8 x.x.i1, .int .u8 x.x.i2, .slice A1 n1 c1]) none rfl (.tmp 4) (.tmp 16) rfl rfl rfl hz4 rfl agg_rule rfl ?_
                intro v15 hn hg hz
                have hS15 := Vb.grown hS14 hg (by omega)
                replace hz5 := hz5.grown hg (by omega)
                replace hz6 := hz6.grown hg (by omega)
                replace hz4 := hn
                replace hB : Below (w.heap.size + 1) u0 v15 := hB.grown hg hw0 (fun k e => by simp at e; omega)
                replace hw0 := Nat.le_trans hw0 hg.size
                refine hK.out _ _ hS15 (fun _ => ?_)
                clear hK K hn hg hz hS14
                try simp only [Act.put, List.setIfInBounds_toArray, List.set_cons_zero, List.set_cons_succ]
                refine wpAnyH_ready (rs := [17]) (by kernel_rfl) (by simp) ?_
                refine AllReadyH.cons rfl (fun K hK => ?_) AllReadyH.nil
                · try rw [if_pos (by rfl)]
                  refine wp_store_vb' (T := 28) (vs := [.int .i64 y.k, .int .i64 y.pr, .int .i64 y.to, .int .i64 y.po, .int .i64 y.x.v, .int .i64 y.x.m, .int .u8 y.x.b0, .int .u8 y.x.b1, .int .u8 y.x.b2, .int .u8 y.x.i0, .int .u8 y.x.i1, .int .u8 y.x.i2, .slice A2 n2 c2]) none rfl (.tmp 5) (.tmp 21) rfl rfl rfl hz5 rfl agg_rule rfl ?_
                  intro v16 hn hg hz
                  have hS16 := Vb.grown hS15 hg (by omega)
                  replace hz4 := hz4.grown hg (by omega)
                  replace hz6 := hz6.grown hg (by omega)
                  replace hz5 := hn
                  replace hB : Below (w.heap.size + 1) u0 v16 := hB.grown hg hw0 (fun k e => by simp at e; omega)
                  replace hw0 := Nat.le_trans hw0 hg.size
                  refine hK.out _ _ hS16 (fun _ => ?_)
                  clear hK K hn hg hz hS15
                  try simp only [Act.put, List.setIfInBounds_toArray, List.set_cons_zero, List.set_cons_succ]
                  refine wpAnyH_ready (rs := [18]) (by kernel_rfl) (by simp) ?_
                  refine AllReadyH.cons rfl (fun K hK => ?_) AllReadyH.nil
                  · try rw [if_pos (by rfl)]
                    refine wp_store_vb' (T := 28) (vs := [.int .i64 z.k, .int .i64 z.pr, .int .i64 z.to, .int .i64 z.po, .int .i64 z.x.v, .int .i64 z.x.m, .int .u8 z.x.b0, .int .u8 z.x.b1, .int .u8 z.x.b2, .int .u8 z.x.i0, .int .u8 z.x.i1, .int .u8 z.x.i2, .slice A3 n3 c3]) none rfl (.tmp 6) (.tmp 26) rfl rfl rfl hz6 rfl agg_rule rfl ?_
                    intro v17 hn hg hz
                    have hS17 := Vb.grown hS16 hg (by omega)
                    replace hz5 := hz5.grown hg (by omega)
                    replace hz4 := hz4.grown hg (by omega)
                    replace hz6 := hn
                    replace hB : Below (w.heap.size + 1) u0 v17 := hB.grown hg hw0 (fun k e => by simp at e; omega)
                    replace hw0 := Nat.le_trans hw0 hg.size
                    refine hK.out _ _ hS17 (fun _ => ?_)
                    clear hK K hn hg hz hS16
                    try simp only [Act.put, List.setIfInBounds_toArray, List.set_cons_zero, List.set_cons_succ]
                    refine wpAnyH_done (by kernel_rfl) ?_ _
                    have hS := hS17
                    go_wp2_with fail
                    go_meet
                    case rel => exact ⟨x, y, z, .slice A1 n1 c1, .slice A2 n2 c2, .slice A3 n3 c3, _, _, _, rfl, rfl, rfl, ⟨hz4, hz5, hz6⟩, hS, hB1.trans (hB.mono (by omega))⟩
          · try rw [if_pos (by rfl)]
            go_simp
            have hb := below_alloc v12 (.cells #[.int .i64 0, .int .i64 0, .int .i64 0, .int .i64 0, .int .i64 0, .int .i64 0, .int .u8 0, .int .u8 0, .int .u8 0, .int .u8 0, .int .u8 0, .int .u8 0, .slice none 0 0] 28)
            have hz6 := Vb.new 28 v12 [.int .i64 0, .int .i64 0, .int .i64 0, .int .i64 0, .int .i64 0, .int .i64 0, .int .u8 0, .int .u8 0, .int .u8 0, .int .u8 0, .int .u8 0, .int .u8 0, .slice none 0 0]
            have hS18 := Vb.alloc hS12 (.cells #[.int .i64 0, .int .i64 0, .int .i64 0, .int .i64 0, .int .i64 0, .int .i64 0, .int .u8 0, .int .u8 0, .int .u8 0, .int .u8 0, .int .u8 0, .int .u8 0, .slice none 0 0] 28)
            have hl6 := hw0
            have hlt5_6 := hz5.lt
            replace hz5 := hz5.alloc (.cells #[.int .i64 0, .int .i64 0, .int .i64 0, .int .i64 0, .int .i64 0, .int .i64 0, .int .u8 0, .int .u8 0, .int .u8 0, .int .u8 0, .int .u8 0, .int .u8 0, .slice none 0 0] 28)
            replace hB := hB.trans (hb.mono hw0)
            replace hw0 := Nat.le_trans hw0 hb.size
            refine hK.out _ _ hS18 (fun _ => ?_)
            clear hK K hb
            try simp only [Act.put, List.setIfInBounds_toArray, List.set_cons_zero, List.set_cons_succ]
            clear hS12
            generalize hu18 : v12.alloc (.cells #[.int .i64 0, .int .i64 0, .int .i64 0, .int .i64 0, .int .i64 0, .int .i64 0, .int .u8 0, .int .u8 0, .int .u8 0, .int .u8 0, .int .u8 0, .int .u8 0, .slice none 0 0] 28) = v18 at *
            generalize v12.heap.size = q6 at *
            clear hu18
            refine wpAnyH_ready (rs := [13]) (by kernel_rfl) (by simp) ?_
            refine AllReadyH.cons rfl (fun K hK => ?_) AllReadyH.nil
            · try rw [if_pos (by rfl)]
              go_simp
              have hb := below_alloc v18 (.cells #[.int .i64 0, .int .i64 0, .int .i64 0, .int .i64 0, .int .i64 0, .int .i64 0, .int .u8 0, .int .u8 0, .int .u8 0, .int .u8 0, .int .u8 0, .int .u8 0, .slice none 0 0] 28)
              have hz4 := Vb.new 28 v18 [.int .i64 0, .int .i64 0, .int .i64 0, .int .i64 0, .int .i64 0, .int .i64 0, .int .u8 0, .int .u8 0, .int .u8 0, .int .u8 0, .int .u8 0, .int .u8 0, .slice none 0 0]
              have hS19 := Vb.alloc hS18 (.cells #[.int .i64 0, .int .i64 0, .int .i64 0, .int .i64 0, .int .i64 0, .int .i64 0, .int .u8 0, .int .u8 0, .int .u8 0, .int .u8 0, .int .u8 0, .int .u8 0, .slice none 0 0] 28)
              have hl4 := hw0
              have hlt5_4 := hz5.lt
              have hlt6_4 := hz6.lt
              replace hz5 := hz5.alloc (.cells #[.int .i64 0, .int .i64 0, .int .i64 0, .int .i64 0, .int .i64 0, .int .i64 0, .int .u8 0, .int .u8 0, .int .u8 0, .int .u8 0, .int .u8 0, .int .u8 0, .slice none 0 0] 28)
              replace hz6 := hz6.alloc (.cells #[.int .i64 0, .int .i64 0, .int .i64 0, .int .i64 0, .int .i64 0, .int .i64 0, .int .u8 0, .int .u8 0, .int .u8 0, .int .u8 0, .int .u8 0, .int .u8 0, .slice none 0 0] 28)
              replace hB := hB.trans (hb.mono hw0)
              replace hw0 := Nat.le_trans hw0 hb.size
              refine hK.out _ _ hS19 (fun _ => ?_)
              clear hK K hb
              try simp only [Act.put, List.setIfInBounds_toArray, List.set_cons_zero, List.set_cons_succ]
              clear hS18
              generalize hu19 : v18.alloc (.cells #[.int .i64 0, .int .i64 0, .int .i64 0, .int .i64 0, .int .i64 0, .int .i64 0, .int .u8 0, .int .u8 0, .int .u8 0, .int .u8 0, .int .u8 0, .int .u8 0, .slice none 0 0] 28) = v19 at *
              generalize v18.heap.size = q4 at *
              clear hu19
              refine wpAnyH_ready (rs := [16]) (by kernel_rfl) (by simp) ?_
              refine AllReadyH.cons rfl (fun K hK => ?_) AllReadyH.nil
              · try rw [if_pos (by rfl)]
                refine wp_store_vb' (T := 28) (vs := [.int .i64 x.k, .int .i64 x.pr, .int .i64 x.to, .int .i64 x.po, .int .i64 x.x.v, .int .i64 x.x.m, .int .u8 x.x.b0, .int .u8 x.x.b1, .int .u8 x.x.b2, .int .u8 x.x.i0, .int .u8 x.x.i1, .int .u8 x.x.i2, .slice A1 n1 c1]) none rfl (.tmp 4) (.tmp 16) rfl rfl rfl hz4 rfl agg_rule rfl ?_
                intro v20 hn hg hz
                have hS20 := Vb.grown hS19 hg (by omega)
                replace hz5 := hz5.grown hg (by omega)
                replace hz6 := hz6.grown hg (by omega)
                replace hz4 := hn
                replace hB : Below (w.heap.size + 1) u0 v20 := hB.grown hg hw0 (fun k e => by simp at e; omega)
                replace hw0 := Nat.le_trans hw0 hg.size
                refine hK.out _ _ hS20 (fun _ => ?_)
                clear hK K hn hg hz hS19
                try simp only [Act.put, List.setIfInBounds_toArray, List.set_cons_zero, List.set_cons_succ]
                refine wpAnyH_ready (rs := [17]) (by kernel_rfl) (by simp) ?_
                refine AllReadyH.cons rfl (fun K hK => ?_) AllReadyH.nil
                · try rw [if_pos (by rfl)]
                  refine wp_store_vb' (T := 28) (vs := [.int .i64 y.k, .int .i64 y.pr, .int .i64 y.to, .int .i64 y.po, .int .i64 y.x.v, .int .i64 y.x.m, .int .u8 y.x.b0, .int .u8 y.x.b1, .int .u8 y.x.b2, .int .u8 y.x.i0, .int .u8 y.x.i1, .int .u8 y.x.i2, .slice A2 n2 c2]) none rfl (.tmp 5) (.tmp 21) rfl rfl rfl hz5 rfl agg_rule rfl ?_
                  intro v21 hn hg hz
                  have hS21 := Vb.grown hS20 hg (by omega)
                  replace hz6 := hz6.grown hg (by omega)
                  replace hz4 := hz4.grown hg (by omega)
                  replace hz5 := hn
                  replace hB : Below (w.heap.size + 1) u0 v21 := hB.grown hg hw0 (fun k e => by simp at e; omega)
                  replace hw0 := Nat.le_trans hw0 hg.size
                  refine hK.out _ _ hS21 (fun _ => ?_)
                  clear hK K hn hg hz hS20
                  try simp only [Act.put, List.setIfInBounds_toArray, List.set_cons_zero, List.set_cons_succ]
                  refine wpAnyH_ready (rs := [18]) (by kernel_rfl) (by simp) ?_
                  refine AllReadyH.cons rfl (fun K hK => ?_) AllReadyH.nil
                  · try rw [if_pos (by rfl)]
                    refine wp_store_vb' (T := 28) (vs := [.int .i64 z.k, .int .i64 z.pr, .int .i64 z.to, .int .i64 z.po, .int .i64 z.x.v, .int .i64 z.x.m, .int .u8 z.x.b0, .int .u8 z.x.b1, .int .u8 z.x.b2, .int .u8 z.x.i0, .int .u8 z.x.i1, .int .u8 z.x.i2, .slice A3 n3 c3]) none rfl (.tmp 6) (.tmp 26) rfl rfl rfl hz6 rfl agg_rule rfl ?_
                    intro v22 hn hg hz
                    have hS22 := Vb.grown hS21 hg (by omega)
                    replace hz5 := hz5.grown hg (by omega)
                    replace hz4 := hz4.grown hg (by omega)
                    replace hz6 := hn
                    replace hB : Below (w.heap.size + 1) u0 v22 := hB.grown hg hw0 (fun k e => by simp at e; omega)
                    replace hw0 := Nat.le_trans hw0 hg.size
                    refine hK.out _ _ hS22 (fun _ => ?_)
                    clear hK K hn hg hz hS21
                    try simp only [Act.put, List.setIfInBounds_toArray, List.set_cons_zero, List.set_cons_succ]
                    refine wpAnyH_done (by kernel_rfl) ?_ _
                    have hS := hS22
                    go_wp2_with fail
                    go_meet
                    case rel => exact ⟨x, y, z, .slice A1 n1 c1, .slice A2 n2 c2, .slice A3 n3 c3, _, _, _, rfl, rfl, rfl, ⟨hz4, hz5, hz6⟩, hS, hB1.trans (hB.mono (by omega))⟩
        · try rw [if_pos (by rfl)]
          go_simp
          have hb := below_alloc u0 (.cells #[.int .i64 0, .int .i64 0, .int .i64 0, .int .i64 0, .int .i64 0, .int .i64 0, .int .u8 0, .int .u8 0, .int .u8 0, .int .u8 0, .int .u8 0, .int .u8 0, .slice none 0 0] 28)
          have hz6 := Vb.new 28 u0 [.int .i64 0, .int .i64 0, .int .i64 0, .int .i64 0, .int .i64 0, .int .i64 0, .int .u8 0, .int .u8 0, .int .u8 0, .int .u8 0, .int .u8 0, .int .u8 0, .slice none 0 0]
          have hS23 := Vb.alloc hS0 (.cells #[.int .i64 0, .int .i64 0, .int .i64 0, .int .i64 0, .int .i64 0, .int .i64 0, .int .u8 0, .int .u8 0, .int .u8 0, .int .u8 0, .int .u8 0, .int .u8 0, .slice none 0 0] 28)
          have hl6 := hw0
          replace hB := hB.trans (hb.mono hw0)
          replace hw0 := Nat.le_trans hw0 hb.size
          refine hK.out _ _ hS23 (fun _ => ?_)
          clear hK K hb
          try simp only [Act.put, List.setIfInBounds_toArray, List.set_cons_zero, List.set_cons_succ]
          clear hS0
          generalize hu23 : u0.alloc (.cells #[.int .i64 0, .int .i64 0, .int .i64 0, .int .i64 0, .int .i64 0, .int .i64 0, .int .u8 0, .int .u8 0, .int .u8 0, .int .u8 0, .int .u8 0, .int .u8 0, .slice none 0 0] 28) = v23 at *
          generalize u0.heap.size = q6 at *
          clear hu23
          refine wpAnyH_ready (rs := [13, 14]) (by kernel_rfl) (by simp) ?_
          refine AllReadyH.cons rfl (fun K hK => ?_) (AllReadyH.cons rfl (fun K hK => ?_) AllReadyH.nil)
          · try rw [if_pos (by rfl)]
            go_simp
            have hb := below_alloc v23 (.cells #[.int .i64 0, .int .i64 0, .int .i64 0, .int .i64 0, .int .i64 0, .int .i64 0, .int .u8 0, .int .u8 0, .int .u8 0, .int .u8 0, .int .u8 0, .int .u8 0, .slice none 0 0] 28)
            have hz4 := Vb.new 28 v23 [.int .i64 0, .int .i64 0, .int .i64 0, .int .i64 0, .int .i64 0, .int .i64 0, .int .u8 0, .int .u8 0, .int .u8 0, .int .u8 0, .int .u8 0, .int .u8 0, .slice none 0 0]
            have hS24 := Vb.alloc hS23 (.cells #[.int .i64 0, .int .i64 0, .int .i64 0, .int .i64 0, .int .i64 0, .int .i64 0, .int .u8 0, .int .u8 0, .int .u8 0, .int .u8 0, .int .u8 0, .int .u8 0, .slice none 0 0] 28)
            have hl4 := hw0
            have hlt6_4 := hz6.lt
            replace hz6 := hz6.alloc (.cells #[.int .i64 0, .int .i64 0, .int .i64 0, .int .i64 0, .int .i64 0, .int .i64 0, .int .u8 0, .int .u8 0, .int .u8 0, .int .u8 0, .int .u8 0, .int .u8 0, .slice none 0 0] 28)
            replace hB := hB.trans (hb.mono hw0)
            replace hw0 := Nat.le_trans hw0 hb.size
            refine hK.out _ _ hS24 (fun _ => ?_)
            clear hK K hb
            try simp only [Act.put, List.setIfInBounds_toArray, List.set_cons_zero, List.set_cons_succ]
            clear hS23
            generalize hu24 : v23.alloc (.cells #[.int .i64 0, .int .i64 0, .int .i64 0, .int .i64 0, .int .i64 0, .int .i64 0, .int .u8 0, .int .u8 0, .int .u8 0, .int .u8 0, .int .u8 0, .int .u8 0, .slice none 0 0] 28) = v24 at *
            generalize v23.heap.size = q4 at *
            clear hu24
            refine wpAnyH_ready (rs := [14]) (by kernel_rfl) (by simp) ?_
            refine AllReadyH.cons rfl (fun K hK => ?_) AllReadyH.nil
            · try rw [if_pos (by rfl)]
              go_simp
              have hb := below_alloc v24 (.cells #[.int .i64 0, .int .i64 0, .int .i64 0, .int .i64 0, .int .i64 0, .int .i64 0, .int .u8 0, .int .u8 0, .int .u8 0, .int .u8 0, .int .u8 0, .int .u8 0, .slice none 0 0] 28)
              have hz5 := Vb.new 28 v24 [.int .i64 0, .int .i64 0, .int .i64 0, .int .i64 0, .int .i64 0, .int .i64 0, .int .u8 0, .int .u8 0, .int .u8 0, .int .u8 0, .int .u8 0, .int .u8 0, .slice none 0 0]
              have hS25 := Vb.alloc hS24 (.cells #[.int .i64 0, .int .i64 0, .int .i64 0, .int .i64 0, .int .i64 0, .int .i64 0, .int .u8 0, .int .u8 0, .int .u8 0, .int .u8 0, .int .u8 0, .int .u8 0, .slice none 0 0] 28)
              have hl5 := hw0
              have hlt6_5 := hz6.lt
              have hlt4_5 := hz4.lt
              replace hz6 := hz6.alloc (.cells #[.int .i64 0, .int .i64 0, .int .i64 0, .int .i64 0, .int .i64 0, .int .i64 0, .int .u8 0, .int .u8 0, .int .u8 0, .int .u8 0, .int .u8 0, .int .u8 0, .slice none 0 0] 28)
              replace hz4 := hz4.alloc (.cells #[.int .i64 0, .int .i64 0, .int .i64 0, .int .i64 0, .int .i64 0, .int .i64 0, .int .u8 0, .int .u8 0, .int .u8 0, .int .u8 0, .int .u8 0, .int .u8 0, .slice none 0 0] 28)
              replace hB := hB.trans (hb.mono hw0)
              replace hw0 := Nat.le_trans hw0 hb.size
              refine hK.out _ _ hS25 (fun _ => ?_)
              clear hK K hb
              try simp only [Act.put, List.setIfInBounds_toArray, List.set_cons_zero, List.set_cons_succ]
              clear hS24
              generalize hu25 : v24.alloc (.cells #[.int .i64 0, .int .i64 0, .int .i64 0, .int .i64 0, .int .i64 0, .int .i64 0, .int .u8 0, .int .u8 0, .int .u8 0, .int .u8 0, .int .u8 0, .int .u8 0, .slice none 0 0] 28) = v25 at *
              generalize v24.heap.size = q5 at *
              clear hu25
              refine wpAnyH_ready (rs := [16]) (by kernel_rfl) (by simp) ?_
              refine AllReadyH.cons rfl (fun K hK => ?_) AllReadyH.nil
              · try rw [if_pos (by rfl)]
                refine wp_store_vb' (T := 28) (vs := [.int .i64 x.k, .int .i64 x.pr, .int .i64 x.to, .int .i64 x.po, .int .i64 x.x.v, .int .i64 x.x.m, .int .u8 x.x.b0, .int .u8 x.x.b1, .int .u8 x.x.b2, .int .u8 x.x.i0, .int .u8 x.x.i1, .int .u8 x.x.i2, .slice A1 n1 c1]) none rfl (.tmp 4) (.tmp 16) rfl rfl rfl hz4 rfl agg_rule rfl ?_
                intro v26 hn hg hz
                have hS26 := Vb.grown hS25 hg (by omega)
                replace hz6 := hz6.grown hg (by omega)
                replace hz5 := hz5.grown hg (by omega)
                replace hz4 := hn
                replace hB : Below (w.heap.size + 1) u0 v26 := hB.grown hg hw0 (fun k e => by simp at e; omega)
                replace hw0 := Nat.le_trans hw0 hg.size
                refine hK.out _ _ hS26 (fun _ => ?_)
                clear hK K hn hg hz hS25
                try simp only [Act.put, List.setIfInBounds_toArray, List.set_cons_zero, List.set_cons_succ]
                refine wpAnyH_ready (rs := [17]) (by kernel_rfl) (by simp) ?_
                refine AllReadyH.cons rfl (fun K hK => ?_) AllReadyH.nil
                · try rw [if_pos (by rfl)]
                  refine wp_store_vb' (T := 28) (vs := [.int .i64 y.k, .int .i64 y.pr, .int .i64 y.to, .int .i64 y.po, .int .i64 y.x.v, .int .i64 y.x.m, .int .u8 y.x.b0, .int .u8 y.x.b1, .int .u8 y.x.b2, .int .u8 y.x.i0, .int .u8 y.x.i1, .int .u8 y.x.i2, .slice A2 n2 c2]) none rfl (.tmp 5) (.tmp 21) rfl rfl rfl hz5 rfl agg_rule rfl ?_
                  intro v27 hn hg hz
                  have hS27 := Vb.grown hS26 hg (by omega)
                  replace hz6 := hz6.grown hg (by omega)
                  replace hz4 := hz4.grown hg (by omega)
                  replace hz5 := hn
                  replace hB : Below (w.heap.size + 1) u0 v27 := hB.grown hg hw0 (fun k e => by simp at e; omega)
                  replace hw0 := Nat.le_trans hw0 hg.size
                  refine hK.out _ _ hS27 (fun _ => ?_)
                  clear hK K hn hg hz hS26
                  try simp only [Act.put, List.setIfInBounds_toArray, List.set_cons_zero, List.set_cons_succ]
                  refine wpAnyH_ready (rs := [18]) (by kernel_rfl) (by simp) ?_
                  refine AllReadyH.cons rfl (fun K hK => ?_) AllReadyH.nil
                  · try rw [if_pos (by rfl)]
                    refine wp_store_vb' (T := 28) (vs := [.int .i64 z.k, .int .i64 z.pr, .int .i64 z.to, .int .i64 z.po, .int .i64 z.x.v, .int .i64 z.x.m, .int .u8 z.x.b0, .int .u8 z.x.b1, .int .u8 z.x.b2, .int .u8 z.x.i0, .int .u8 z.x.i1, .int .u8 z.x.i2, .slice A3 n3 c3]) none rfl (.tmp 6) (.tmp 26) rfl rfl rfl hz6 rfl agg_rule rfl ?_
                    intro v28 hn hg hz
                    have hS28 := Vb.grown hS27 hg (by omega)
                    replace hz4 := hz4.grown hg (by omega)
                    replace hz5 := hz5.grown hg (by omega)
                    replace hz6 := hn
                    replace hB : Below (w.heap.size + 1) u0 v28 := hB.grown hg hw0 (fun k e => by simp at e; omega)
                    replace hw0 := Nat.le_trans hw0 hg.size
                    refine hK.out _ _ hS28 (fun _ => ?_)
                    clear hK K hn hg hz hS27
                    try simp only [Act.put, List.setIfInBounds_toArray, List.set_cons_zero, List.set_cons_succ]
                    refine wpAnyH_done (by kernel_rfl) ?_ _
                    have hS := hS28
                    go_wp2_with fail
                    go_meet
                    case rel => exact ⟨x, y, z, .slice A1 n1 c1, .slice A2 n2 c2, .slice A3 n3 c3, _, _, _, rfl, rfl, rfl, ⟨hz4, hz5, hz6⟩, hS, hB1.trans (hB.mono (by omega))⟩
          · try rw [if_pos (by rfl)]
            go_simp
            have hb := below_alloc v23 (.cells #[.int .i64 0, .int .i64 0, .int .i64 0, .int .i64 0, .int .i64 0, .int .i64 0, .int .u8 0, .int .u8 0, .int .u8 0, .int .u8 0, .int .u8 0, .int .u8 0, .slice none 0 0] 28)
            have hz5 := Vb.new 28 v23 [.int .i64 0, .int .i64 0, .int .i64 0, .int .i64 0, .int .i64 0, .int .i64 0, .int .u8 0, .int .u8 0, .int .u8 0, .int .u8 0, .int .u8 0, .int .u8 0, .slice none 0 0]
            have hS29 := Vb.alloc hS23 (.cells #[.int .i64 0, .int .i64 0, .int .i64 0, .int .i64 0, .int .i64 0, .int .i64 0, .int .u8 0, .int .u8 0, .int .u8 0, .int .u8 0, .int .u8 0, .int .u8 0, .slice none 0 0] 28)
            have hl5 := hw0
            have hlt6_5 := hz6.lt
            replace hz6 := hz6.alloc (.cells #[.int .i64 0, .int .i64 0, .int .i64 0, .int .i64 0, .int .i64 0, .int .i64 0, .int .u8 0, .int .u8 0, .int .u8 0, .int .u8 0, .int .u8 0, .int .u8 0, .slice none 0 0] 28)
            replace hB := hB.trans (hb.mono hw0)
            replace hw0 := Nat.le_trans hw0 hb.size
            refine hK.out _ _ hS29 (fun _ => ?_)
            clear hK K hb
            try simp only [Act.put, List.setIfInBounds_toArray, List.set_cons_zero, List.set_cons_succ]
            clear hS23
            generalize hu29 : v23.alloc (.cells #[.int .i64 0, .int .i64 0, .int .i64 0, .int .i64 0, .int .i64 0, .int .i64 0, .int .u8 0, .int .u8 0, .int .u8 0, .int .u8 0, .int .u8 0, .int .u8 0, .slice none 0 0] 28) = v29 at *
            generalize v23.heap.size = q5 at *
            clear hu29
            refine wpAnyH_ready (rs := [13]) (by kernel_rfl) (by simp) ?_
            refine AllReadyH.cons rfl (fun K hK => ?_) AllReadyH.nil
            · try rw [if_pos (by rfl)]
              go_simp
              have hb := below_alloc v29 (.cells #[.int .i64 0, .int .i64 0, .int .i64 0, .int .i64 0, .int .i64 0, .int .i64 0, .int .u8 0, .int .u8 0, .int .u8 0, .int .u8 0, .int .u8 0, .int .u8 0, .slice none 0 0] 28)
              have hz4 := Vb.new 28 v29 [.int .i64 0, .int .i64 0, .int .i64 0, .int .i64 0, .int .i64 0, .int .i64 0, .int .u8 0, .int .u8 0, .int .u8 0, .int .u8 0, .int .u8 0, .int .u8 0, .slice none 0 0]
              have hS30 := Vb.alloc hS29 (.cells #[.int .i64 0, .int .i64 0, .int .i64 0, .int .i64 0, .int .i64 0, .int .i64 0, .int .u8 0, .int .u8 0, .int .u8 0, .int .u8 0, .int .u8 0, .int .u8 0, .slice none 0 0] 28)
              have hl4 := hw0
              have hlt6_4 := hz6.lt
              have hlt5_4 := hz5.lt
              replace hz6 := hz6.alloc (.cells #[.int .i64 0, .int .i64 0, .int .i64 0, .int .i64 0, .int .i64 0, .int .i64 0, .int .u8 0, .int .u8 0, .int .u8 0, .int .u8 0, .int .u8 0, .int .u8 0, .slice none 0 0] 28)
              replace hz5 := hz5.alloc (.cells #[.int .i64 0, .int .i64 0, .int .i64 0, .int .i64 0, .int .i64 0, .int .i64 0, .int .u8 0, .int .u8 0, .int .u8 0, .int .u8 0, .int .u8 0, .int .u8 0, .slice none 0 0] 28)
              replace hB := hB.trans (hb.mono hw0)
              replace hw0 := Nat.le_trans hw0 hb.size
              refine hK.out _ _ hS30 (fun _ => ?_)
              clear hK K hb
              try simp only [Act.put, List.setIfInBounds_toArray, List.set_cons_zero, List.set_cons_succ]
              clear hS29
              generalize hu30 : v29.alloc (.cells #[.int .i64 0, .int .i64 0, .int .i64 0, .int .i64 0, .int .i64 0, .int .i64 0, .int .u8 0, .int .u8 0, .int .u8 0, .int .u8 0, .int .u8 0, .int .u8 0, .slice none 0 0] 28) = v30 at *
              generalize v29.heap.size = q4 at *
              clear hu30
              refine wpAnyH_ready (rs := [16]) (by kernel_rfl) (by simp) ?_
              refine AllReadyH.cons rfl (fun K hK => ?_) AllReadyH.nil
              · try rw [if_pos (by rfl)]
                refine wp_store_vb' (T := 28) (vs := [.int .i64 x.k, .int .i64 x.pr, .int .i64 x.to, .int .i64 x.po, .int .i64 x.x.v, .int .i64 x.x.m, .int .u8 x.x.b0, .int .u8 x.x.b1, .int .u8 x.x.b2, .int .u8 x.x.i0, .int .u8 x.x.i1, .int .u8 x.x.i2, .slice A1 n1 c1]) none rfl (.tmp 4) (.tmp 16) rfl rfl rfl hz4 rfl agg_rule rfl ?_
                intro v31 hn hg hz
                have hS31 := Vb.grown hS30 hg (by omega)
                replace hz6 := hz6.grown hg (by omega)
                replace hz5 := hz5.grown hg (by omega)
                replace hz4 := hn
                replace hB : Below (w.heap.size + 1) u0 v31 := hB.grown hg hw0 (fun k e => by simp at e; omega)
                replace hw0 := Nat.le_trans hw0 hg.size
                refine hK.out _ _ hS31 (fun _ => ?_)
                clear hK K hn hg hz hS30
                try simp only [Act.put, List.setIfInBounds_toArray, List.set_cons_zero, List.set_cons_succ]
                refine wpAnyH_ready (rs := [17]) (by kernel_rfl) (by simp) ?_
                refine AllReadyH.cons rfl (fun K hK => ?_) AllReadyH.nil
                · try rw [if_pos (by rfl)]
                  refine wp_store_vb' (T := 28) (vs := [.int .i64 y.k, .int .i64 y.pr, .int .i64 y.to, .int .i64 y.po, .int .i64 y.x.v, .int .i64 y.x.m, .int .u8 y.x.b0, .int .u8 y.x.b1, .int .u8 y.x.b2, .int .u8 y.x.i0, .int .u8 y.x.i1, .int .u8 y.x.i2, .slice A2 n2 c2]) none rfl (.tmp 5) (.tmp 21) rfl rfl rfl hz5 rfl agg_rule rfl ?_
                  intro v32 hn hg hz
                  have hS32 := Vb.grown hS31 hg (by omega)
                  replace hz6 := hz6.grown hg (by omega)
                  replace hz4 := hz4.grown hg (by omega)
                  replace hz5 := hn
                  replace hB : Below (w.heap.size + 1) u0 v32 := hB.grown hg hw0 (fun k e => by simp at e; omega)
                  replace hw0 := Nat.le_trans hw0 hg.size
                  refine hK.out _ _ hS32 (fun _ => ?_)
                  clear hK K hn hg hz hS31
                  try simp only [Act.put, List.setIfInBounds_toArray, List.set_cons_zero, List.set_cons_succ]
                  refine wpAnyH_ready (rs := [18]) (by kernel_rfl) (by simp) ?_
                  refine AllReadyH.cons rfl (fun K hK => ?_) AllReadyH.nil
                  · try rw [if_pos (by rfl)]
                    refine wp_store_vb' (T := 28) (vs := [.int .i64 z.k, .int .i64 z.pr, .int .i64 z.to, .int .i64 z.po, .int .i64 z.x.v, .int .i64 z.x.m, .int .u8 z.x.b0, .int .u8 z.x.b1, .int .u8 z.x.b2, .int .u8 z.x.i0, .int .u8 z.x.i1, .int .u8 z.x.i2, .slice A3 n3 c3]) none rfl (.tmp 6) (.tmp 26) rfl rfl rfl hz6 rfl agg_rule rfl ?_
                    intro v33 hn hg hz
                    have hS33 := Vb.grown hS32 hg (by omega)
                    replace hz5 := hz5.grown hg (by omega)
                    replace hz4 := hz4.grown hg (by omega)
                    replace hz6 := hn
                    replace hB : Below (w.heap.size + 1) u0 v33 := hB.grown hg hw0 (fun k e => by simp at e; omega)
                    replace hw0 := Nat.le_trans hw0 hg.size
                    refine hK.out _ _ hS33 (fun _ => ?_)
                    clear hK K hn hg hz hS32
                    try simp only [Act.put, List.setIfInBounds_toArray, List.set_cons_zero, List.set_cons_succ]
                    refine wpAnyH_done (by kernel_rfl) ?_ _
                    have hS := hS33
                    go_wp2_with fail
                    go_meet
                    case rel => exact ⟨x, y, z, .slice A1 n1 c1, .slice A2 n2 c2, .slice A3 n3 c3, _, _, _, rfl, rfl, rfl, ⟨hz4, hz5, hz6⟩, hS, hB1.trans (hB.mono (by omega))⟩
      · refine wp_region_held_drew (S := fun W => Vb 35 W w.heap.size [.int .i64 x.k, .int .i64 x.pr, .int .i64 x.to, .int .i64 x.po, .int .i64 x.x.v, .int .i64 x.x.m, .int .u8 x.x.b0, .int .u8 x.x.b1, .int .u8 x.x.b2, .int .u8 x.x.i0, .int .u8 x.x.i1, .int .u8 x.x.i2, .slice A1 n1 c1, .int .i64 y.k, .int .i64 y.pr, .int .i64 y.to, .int .i64 y.po, .int .i64 y.x.v, .int .i64 y.x.m, .int .u8 y.x.b0, .int .u8 y.x.b1, .int .u8 y.x.b2, .int .u8 y.x.i0, .int .u8 y.x.i1, .int .u8 y.x.i2, .slice A2 n2 c2, .int .i64 z.k, .int .i64 z.pr, .int .i64 z.to, .int .i64 z.po, .int .i64 z.x.v, .int .i64 z.x.m, .int .u8 z.x.b0, .int .u8 z.x.b1, .int .u8 z.x.b2, .int .u8 z.x.i0, .int .u8 z.x.i1, .int .u8 z.x.i2, .slice A3 n3 c3]) (by kernel_rfl) hS0 (fun _ => ?_)
        generalize wr.drew = u0 at *
        have hB : Below (w.heap.size + 1) u0 u0 := Below.refl _ _
        refine takeD (i := 0) (v := .int .i64 1) (some 14) rfl rfl (by kernel_rfl) (by kernel_rfl) (by kernel_rfl) (fun _ _ _ h => h) (Or.inl ⟨by rfl, ?_⟩) hS0 ?_
        · rintro w' s0
          go_simp
          try rfl
        try simp only [Act.put, List.setIfInBounds_toArray, List.set_cons_zero, List.set_cons_succ]
        refine takeD (i := 1) (v := .pointer (some ⟨w.heap.size, 13, none⟩)) (some 15) rfl rfl (by kernel_rfl) (by kernel_rfl) (by kernel_rfl) (fun _ _ _ h => h) (Or.inl ⟨by rfl, ?_⟩) hS0 ?_
        · rintro w' s0
          go_simp
          try rfl
        try simp only [Act.put, List.setIfInBounds_toArray, List.set_cons_zero, List.set_cons_succ]
        refine takeD (i := 2) (v := .agg #[.int .i64 y.k, .int .i64 y.pr, .int .i64 y.to, .int .i64 y.po, .int .i64 y.x.v, .int .i64 y.x.m, .int .u8 y.x.b0, .int .u8 y.x.b1, .int .u8 y.x.b2, .int .u8 y.x.i0, .int .u8 y.x.i1, .int .u8 y.x.i2, .slice A2 n2 c2]) (some 16) rfl rfl (by kernel_rfl) (by kernel_rfl) (by kernel_rfl) (fun _ _ _ h => h) (Or.inl ⟨by rfl, ?_⟩) hS0 ?_
        · rintro w' s0
          have d0 := s0.cell 13 rfl
          have d1 := s0.cell 14 rfl
          have d2 := s0.cell 15 rfl
          have d3 := s0.cell 16 rfl
          have d4 := s0.cell 17 rfl
          have d5 := s0.cell 18 rfl
          have d6 := s0.cell 19 rfl
          have d7 := s0.cell 20 rfl
          have d8 := s0.cell 21 rfl
          have d9 := s0.cell 22 rfl
          have d10 := s0.cell 23 rfl
          have d11 := s0.cell 24 rfl
          have d12 := s0.cell 25 rfl
          go_simp
          try rfl
        try simp only [Act.put, List.setIfInBounds_toArray, List.set_cons_zero, List.set_cons_succ]
        refine takeD (i := 3) (v := .int .i64 1) (some 17) rfl rfl (by kernel_rfl) (by kernel_rfl) (by kernel_rfl) (fun _ _ _ h => h) (Or.inl ⟨by rfl, ?_⟩) hS0 ?_
        · rintro w' s0
          go_simp
          try rfl
        try simp only [Act.put, List.setIfInBounds_toArray, List.set_cons_zero, List.set_cons_succ]
        refine takeD (i := 4) (v := .int .i64 2) (some 18) rfl rfl (by kernel_rfl) (by kernel_rfl) (by kernel_rfl) (fun _ _ _ h => h) (Or.inl ⟨by rfl, ?_⟩) hS0 ?_
        · rintro w' s0
          go_simp
          try rfl
        try simp only [Act.put, List.setIfInBounds_toArray, List.set_cons_zero, List.set_cons_succ]
        refine takeD (i := 5) (v := .int .i64 2) (some 19) rfl rfl (by kernel_rfl) (by kernel_rfl) (by kernel_rfl) (fun _ _ _ h => h) (Or.inl ⟨by rfl, ?_⟩) hS0 ?_
        · rintro w' s0
          go_simp
          try rfl
        try simp only [Act.put, List.setIfInBounds_toArray, List.set_cons_zero, List.set_cons_succ]
        refine takeD (i := 6) (v := .pointer (some ⟨w.heap.size, 26, none⟩)) (some 20) rfl rfl (by kernel_rfl) (by kernel_rfl) (by kernel_rfl) (fun _ _ _ h => h) (Or.inl ⟨by rfl, ?_⟩) hS0 ?_
        · rintro w' s0
          go_simp
          try rfl
        try simp only [Act.put, List.setIfInBounds_toArray, List.set_cons_zero, List.set_cons_succ]
        refine takeD (i := 7) (v := .agg #[.int .i64 z.k, .int .i64 z.pr, .int .i64 z.to, .int .i64 z.po, .int .i64 z.x.v, .int .i64 z.x.m, .int .u8 z.x.b0, .int .u8 z.x.b1, .int .u8 z.x.b2, .int .u8 z.x.i0, .int .u8 z.x.i1, .int .u8 z.x.i2, .slice A3 n3 c3]) (some 21) rfl rfl (by kernel_rfl) (by kernel_rfl) (by kernel_rfl) (fun _ _ _ h => h) (Or.inl ⟨by rfl, ?_⟩) hS0 ?_
        · rintro w' s0
          have d0 := s0.cell 26 rfl
          have d1 := s0.cell 27 rfl
          have d2 := s0.cell 28 rfl
          have d3 := s0.cell 29 rfl
          have d4 := s0.cell 30 rfl
          have d5 := s0.cell 31 rfl
          have d6 := s0.cell 32 rfl
          have d7 := s0.cell 33 rfl
          have d8 := s0.cell 34 rfl
          have d9 := s0.cell 35 rfl
          have d10 := s0.cell 36 rfl
          have d11 := s0.cell 37 rfl
          have d12 := s0.cell 38 rfl
          go_simp
          try rfl
        try simp only [Act.put, List.setIfInBounds_toArray, List.set_cons_zero, List.set_cons_succ]
        refine takeD (i := 8) (v := .int .i64 1) (some 22) rfl rfl (by kernel_rfl) (by kernel_rfl) (by kernel_rfl) (fun _ _ _ h => h) (Or.inl ⟨by rfl, ?_⟩) hS0 ?_
        · rintro w' s0
          go_simp
          try rfl
        try simp only [Act.put, List.setIfInBounds_toArray, List.set_cons_zero, List.set_cons_succ]
        refine takeD (i := 9) (v := .int .i64 3) (some 23) rfl rfl (by kernel_rfl) (by kernel_rfl) (by kernel_rfl) (fun _ _ _ h => h) (Or.inl ⟨by rfl, ?_⟩) hS0 ?_
        · rintro w' s0
          go_simp
          try rfl
        try simp only [Act.put, List.setIfInBounds_toArray, List.set_cons_zero, List.set_cons_succ]
        refine takeD (i := 10) (v := .int .i64 0) (some 24) rfl rfl (by kernel_rfl) (by kernel_rfl) (by kernel_rfl) (fun _ _ _ h => h) (Or.inl ⟨by rfl, ?_⟩) hS0 ?_
        · rintro w' s0
          go_simp
          try rfl
        try simp only [Act.put, List.setIfInBounds_toArray, List.set_cons_zero, List.set_cons_succ]
        refine takeD (i := 11) (v := .pointer (some ⟨w.heap.size, 0, none⟩)) (some 25) rfl rfl (by kernel_rfl) (by kernel_rfl) (by kernel_rfl) (fun _ _ _ h => h) (Or.inl ⟨by rfl, ?_⟩) hS0 ?_
        · rintro w' s0
          go_simp
          try rfl
        try simp only [Act.put, List.setIfInBounds_toArray, List.set_cons_zero, List.set_cons_succ]
        refine takeD (i := 12) (v := .agg #[.int .i64 x.k, .int .i64 x.pr, .int .i64 x.to, .int .i64 x.po, .int .i64 x.x.v, .int .i64 x.x.m, .int .u8 x.x.b0, .int .u8 x.x.b1, .int .u8 x.x.b2, .int .u8 x.x.i0, .int .u8 x.x.i1, .int .u8 x.x.i2, .slice A1 n1 c1]) (some 26) rfl rfl (by kernel_rfl) (by kernel_rfl) (by kernel_rfl) (fun _ _ _ h => h) (Or.inl ⟨by rfl, ?_⟩) hS0 ?_
        · rintro w' s0
          have d0 := s0.cell 0 rfl
          have d1 := s0.cell 1 rfl
          have d2 := s0.cell 2 rfl
          have d3 := s0.cell 3 rfl
          have d4 := s0.cell 4 rfl
          have d5 := s0.cell 5 rfl
          have d6 := s0.cell 6 rfl
          have d7 := s0.cell 7 rfl
          have d8 := s0.cell 8 rfl
          have d9 := s0.cell 9 rfl
          have d10 := s0.cell 10 rfl
          have d11 := s0.cell 11 rfl
          have d12 := s0.cell 12 rfl
          go_simp
          try rfl
        try simp only [Act.put, List.setIfInBounds_toArray, List.set_cons_zero, List.set_cons_succ]
        refine wpAnyH_ready (rs := [13, 14, 15]) (by kernel_rfl) (by simp) ?_
        refine AllReadyH.cons rfl (fun K hK => ?_) (AllReadyH.cons rfl (fun K hK => ?_) (AllReadyH.cons rfl (fun K hK => ?_) AllReadyH.nil))
        · try rw [if_pos (by rfl)]
          go_simp
          have hb := below_alloc u0 (.cells #[.int .i64 0, .int .i64 0, .int .i64 0, .int .i64 0, .int .i64 0, .int .i64 0, .int .u8 0, .int .u8 0, .int .u8 0, .int .u8 0, .int .u8 0, .int .u8 0, .slice none 0 0] 28)
          have hz4 := Vb.new 28 u0 [.int .i64 0, .int .i64 0, .int .i64 0, .int .i64 0, .int .i64 0, .int .i64 0, .int .u8 0, .int .u8 0, .int .u8 0, .int .u8 0, .int .u8 0, .int .u8 0, .slice none 0 0]
          have hS1 := Vb.alloc hS0 (.cells #[.int .i64 0, .int .i64 0, .int .i64 0, .int .i64 0, .int .i64 0, .int .i64 0, .int .u8 0, .int .u8 0, .int .u8 0, .int .u8 0, .int .u8 0, .int .u8 0, .slice none 0 0] 28)
          have hl4 := hw0
          replace hB := hB.trans (hb.mono hw0)
          replace hw0 := Nat.le_trans hw0 hb.size
          refine hK.out _ _ hS1 (fun _ => ?_)
          clear hK K hb
          try simp only [Act.put, List.setIfInBounds_toArray, List.set_cons_zero, List.set_cons_succ]
          clear hS0
          generalize hu1 : u0.alloc (.cells #[.int .i64 0, .int .i64 0, .int .i64 0, .int .i64 0, .int .i64 0, .int .i64 0, .int .u8 0, .int .u8 0, .int .u8 0, .int .u8 0, .int .u8 0, .int .u8 0, .slice none 0 0] 28) = v1 at *
          generalize u0.heap.size = q4 at *
          clear hu1
          refine wpAnyH_ready (rs := [14, 15]) (by kernel_rfl) (by simp) ?_
          refine AllReadyH.cons rfl (fun K hK => ?_) (AllReadyH.cons rfl (fun K hK => ?_) AllReadyH.nil)
          · try rw [if_pos (by rfl)]
            go_simp
            have hb := below_alloc v1 (.cells #[.int .i64 0, .int .i64 0, .int .i64 0, .int .i64 0, .int .i64 0, .int .i64 0, .int .u8 0, .int .u8 0, .int .u8 0, .int .u8 0, .int .u8 0, .int .u8 0, .slice none 0 0] 28)
            have hz5 := Vb.new 28 v1 [.int .i64 0, .int .i64 0, .int .i64 0, .int .i64 0, .int .i64 0, .int .i64 0, .int .u8 0, .int .u8 0, .int .u8 0, .int .u8 0, .int .u8 0, .int .u8 0, .slice none 0 0]
            have hS2 := Vb.alloc hS1 (.cells #[.int .i64 0, .int .i64 0, .int .i64 0, .int .i64 0, .int .i64 0, .int .i64 0, .int .u8 0, .int .u8 0, .int .u8 0, .int .u8 0, .int .u8 0, .int .u8 0, .slice none 0 0] 28)
            have hl5 := hw0
            have hlt4_5 := hz4.lt
            replace hz4 := hz4.alloc (.cells #[.int .i64 0, .int .i64 0, .int .i64 0, .int .i64 0, .int .i64 0, .int .i64 0, .int .u8 0, .int .u8 0, .int .u8 0, .int .u8 0, .int .u8 0, .int .u8 0, .slice none 0 0] 28)
            replace hB := hB.trans (hb.mono hw0)
            replace hw0 := Nat.le_trans hw0 hb.size
            refine hK.out _ _ hS2 (fun _ => ?_)
            clear hK K hb
            try simp only [Act.put, List.setIfInBounds_toArray, List.set_cons_zero, List.set_cons_succ]
            clear hS1
            generalize hu2 : v1.alloc (.cells #[.int .i64 0, .int .i64 0, .int .i64 0, .int .i64 0, .int .i64 0, .int .i64 0, .int .u8 0, .int .u8 0, .int .u8 0, .int .u8 0, .int .u8 0, .int .u8 0, .slice none 0 0] 28) = v2 at *
            generalize v1.heap.size = q5 at *
            clear hu2
            refine wpAnyH_ready (rs := [15]) (by kernel_rfl) (by simp) ?_
            refine AllReadyH.cons rfl (fun K hK => ?_) AllReadyH.nil
            · try rw [if_pos (by rfl)]
              go_simp
              have hb := below_alloc v2 (.cells #[.int .i64 0, .int .i64 0, .int .i64 0, .int .i64 0, .int .i64 0, .int .i64 0, .int .u8 0, .int .u8 0, .int .u8 0, .int .u8 0, .int .u8 0, .int .u8 0, .slice none 0 0] 28)
              have hz6 := Vb.new 28 v2 [.int .i64 0, .int .i64 0, .int .i64 0, .int .i64 0, .int .i64 0, .int .i64 0, .int .u8 0, .int .u8 0, .int .u8 0, .int .u8 0, .int .u8 0, .int .u8 0, .slice none 0 0]
              have hS3 := Vb.alloc hS2 (.cells #[.int .i64 0, .int .i64 0, .int .i64 0, .int .i64 0, .int .i64 0, .int .i64 0, .int .u8 0, .int .u8 0, .int .u8 0, .int .u8 0, .int .u8 0, .int .u8 0, .slice none 0 0] 28)
              have hl6 := hw0
              have hlt4_6 := hz4.lt
              have hlt5_6 := hz5.lt
              replace hz4 := hz4.alloc (.cells #[.int .i64 0, .int .i64 0, .int .i64 0, .int .i64 0, .int .i64 0, .int .i64 0, .int .u8 0, .int .u8 0, .int .u8 0, .int .u8 0, .int .u8 0, .int .u8 0, .slice none 0 0] 28)
              replace hz5 := hz5.alloc (.cells #[.int .i64 0, .int .i64 0, .int .i64 0, .int .i64 0, .int .i64 0, .int .i64 0, .int .u8 0, .int .u8 0, .int .u8 0, .int .u8 0, .int .u8 0, .int .u8 0, .slice none 0 0] 28)
              replace hB := hB.trans (hb.mono hw0)
              replace hw0 := Nat.le_trans hw0 hb.size
              refine hK.out _ _ hS3 (fun _ => ?_)
              clear hK K hb
              try simp only [Act.put, List.setIfInBounds_toArray, List.set_cons_zero, List.set_cons_succ]
              clear hS2
              generalize hu3 : v2.alloc (.cells #[.int .i64 0, .int .i64 0, .int .i64 0, .int .i64 0, .int .i64 0, .int .i64 0, .int .u8 0, .int .u8 0, .int .u8 0, .int .u8 0, .int .u8 0, .int .u8 0, .slice none 0 0] 28) = v3 at *
              generalize v2.heap.size = q6 at *
              clear hu3
              refine wpAnyH_ready (rs := [16]) (by kernel_rfl) (by simp) ?_
              refine AllReadyH.cons rfl (fun K hK => ?_) AllReadyH.nil
              · try rw [if_pos (by rfl)]
                refine wp_store_vb' (T := 28) (vs := [.int .i64 y.k, .int .i64 y.pr, .int .i64 y.to, .int .i64 y.po, .int .i64 y.x.v, .int .i64 y.x.m, .int .u8 y.x.b0, .int .u8 y.x.b1, .int .u8 y.x.b2, .int .u8 y.x.i0, .int .u8 y.x.i1, .int .u8 y.x.i2, .slice A2 n2 c2]) none rfl (.tmp 4) (.tmp 16) rfl rfl rfl hz4 rfl agg_rule rfl ?_
                intro v4 hn hg hz
                have hS4 := Vb.grown hS3 hg (by omega)
                replace hz5 := hz5.grown hg (by omega)
                replace hz6 := hz6.grown hg (by omega)
                replace hz4 := hn
                replace hB : Below (w.heap.size + 1) u0 v4 := hB.grown hg hw0 (fun k e => by simp at e; omega)
                replace hw0 := Nat.le_trans hw0 hg.size
                refine hK.out _ _ hS4 (fun _ => ?_)
                clear hK K hn hg hz hS3
                try simp only [Act.put, List.setIfInBounds_toArray, List.set_cons_zero, List.set_cons_succ]
                refine wpAnyH_ready (rs := [17]) (by kernel_rfl) (by simp) ?_
                refine AllReadyH.cons rfl (fun K hK => ?_) AllReadyH.nil
                · try rw [if_pos (by rfl)]
                  refine wp_store_vb' (T := 28) (vs := [.int .i64 z.k, .int .i64 z.pr, .int .i64 z.to, .int .i64 z.po, .int .i64 z.x.v, .int .i64 z.x.m, .int .u8 z.x.b0, .int .u8 z.x.b1, .int .u8 z.x.b2, .int .u8 z.x.i0, .int .u8 z.x.i1, .int .u8 z.x.i2, .slice A3 n3 c3]) none rfl (.tmp 5) (.tmp 21) rfl rfl rfl hz5 rfl agg_rule rfl ?_
                  intro v5 hn hg hz
                  have hS5 := Vb.grown hS4 hg (by omega)
                  replace hz4 := hz4.grown hg (by omega)
                  replace hz6 := hz6.grown hg (by omega)
                  replace hz5 := hn
                  replace hB : Below (w.heap.size + 1) u0 v5 := hB.grown hg hw0 (fun k e => by simp at e; omega)
                  replace hw0 := Nat.le_trans hw0 hg.size
                  refine hK.out _ _ hS5 (fun _ => ?_)
                  clear hK K hn hg hz hS4
                  try simp only [Act.put, List.setIfInBounds_toArray, List.set_cons_zero, List.set_cons_succ]
                  refine wpAnyH_ready (rs := [18]) (by kernel_rfl) (by simp) ?_
                  refine AllReadyH.cons rfl (fun K hK => ?_) AllReadyH.nil
                  · try rw [if_pos (by rfl)]
                    refine wp_store_vb' (T := 28) (vs := [.int .i64 x.k, .int .i64 x.pr, .int .i64 x.to, .int .i64 x.po, .int .i64 x.x.v, .int .i64 x.x.m, .int .u8 x.x.b0, .int .u8 x.x.b1, .int .u8 x.x.b2, .int .u8 x.x.i0, .int .u8 x.x.i1, .int .u8 x.x.i2, .slice A1 n1 c1]) none rfl (.tmp 6) (.tmp 26) rfl rfl rfl hz6 rfl agg_rule rfl ?_
                    intro v6 hn hg hz
                    have hS6 := Vb.grown hS5 hg (by omega)
                    replace hz4 := hz4.grown hg (by omega)
                    replace hz5 := hz5.grown hg (by omega)
                    replace hz6 := hn
                    replace hB : Below (w.heap.size + 1) u0 v6 := hB.grown hg hw0 (fun k e => by simp at e; omega)
                    replace hw0 := Nat.le_trans hw0 hg.size
                    refine hK.out _ _ hS6 (fun _ => ?_)
                    clear hK K hn hg hz hS5
                    try simp only [Act.put, List.setIfInBounds_toArray, List.set_cons_zero, List.set_cons_succ]
                    refine wpAnyH_done (by kernel_rfl) ?_ _
                    have hS := hS6
                    go_wp2_with fail
                    go_meet
                    case rel => exact ⟨y, z, x, .slice A2 n2 c2, .slice A3 n3 c3, .slice A1 n1 c1, _, _, _, rfl, rfl, rfl, ⟨hz4, hz5, hz6⟩, hS, hB1.trans (hB.mono (by omega))⟩
          · try rw [if_pos (by rfl)]
            go_simp
            have hb := below_alloc v1 (.cells #[.int .i64 0, .int .i64 0, .int .i64 0, .int .i64 0, .int .i64 0, .int .i64 0, .int .u8 0, .int .u8 0, .int .u8 0, .int .u8 0, .int .u8 0, .int .u8 0, .slice none 0 0] 28)
            have hz6 := Vb.new 28 v1 [.int .i64 0, .int .i64 0, .int .i64 0, .int .i64 0, .int .i64 0, .int .i64 0, .int .u8 0, .int .u8 0, .int .u8 0, .int .u8 0, .int .u8 0, .int .u8 0, .slice none 0 0]
            have hS7 := Vb.alloc hS1 (.cells #[.int .i64 0, .int .i64 0, .int .i64 0, .int .i64 0, .int .i64 0, .int .i64 0, .int .u8 0, .int .u8 0, .int .u8 0, .int .u8 0, .int .u8 0, .int .u8 0, .slice none 0 0] 28)
            have hl6 := hw0
            have hlt4_6 := hz4.lt
            replace hz4 := hz4.alloc (.cells #[.int .i64 0, .int .i64 0, .int .i64 0, .int .i64 0, .int .i64 0, .int .i64 0, .int .u8 0, .int .u8 0, .int .u8 0, .int .u8 0, .int .u8 0, .int .u8 0, .slice none 0 0] 28)
            replace hB := hB.trans (hb.mono hw0)
            replace hw0 := Nat.le_trans hw0 hb.size
            refine hK.out _ _ hS7 (fun _ => ?_)
            clear hK K hb
            try simp only [Act.put, List.setIfInBounds_toArray, List.set_cons_zero, List.set_cons_succ]
            clear hS1
            generalize hu7 : v1.alloc (.cells #[.int .i64 0, .int .i64 0, .int .i64 0, .int .i64 0, .int .i64 0, .int .i64 0, .int .u8 0, .int .u8 0, .int .u8 0, .int .u8 0, .int .u8 0, .int .u8 0, .slice none 0 0] 28) = v7 at *
            generalize v1.heap.size = q6 at *
            clear hu7
            refine wpAnyH_ready (rs := [14]) (by kernel_rfl) (by simp) ?_
            refine AllReadyH.cons rfl (fun K hK => ?_) AllReadyH.nil
            · try rw [if_pos (by rfl)]
              go_simp
              have hb := below_alloc v7 (.cells #[.int .i64 0, .int .i64 0, .int .i64 0, .int .i64 0, .int .i64 0, .int .i64 0, .int .u8 0, .int .u8 0, .int .u8 0, .int .u8 0, .int .u8 0, .int .u8 0, .slice none 0 0] 28)
              have hz5 := Vb.new 28 v7 [.int .i64 0, .int .i64 0, .int .i64 0, .int .i64 0, .int .i64 0, .int .i64 0, .int .u8 0, .int .u8 0, .int .u8 0, .int .u8 0, .int .u8 0, .int .u8 0, .slice none 0 0]
              have hS8 := Vb.alloc hS7 (.cells #[.int .i64 0, .int .i64 0, .int .i64 0, .int .i64 0, .int .i64 0, .int .i64 0, .int .u8 0, .int .u8 0, .int .u8 0, .int .u8 0, .int .u8 0, .int .u8 0, .slice none 0 0] 28)
              have hl5 := hw0
              have hlt4_5 := hz4.lt
              have hlt6_5 := hz6.lt
              replace hz4 := hz4.alloc (.cells #[.int .i64 0, .int .i64 0, .int .i64 0, .int .i64 0, .int .i64 0, .int .i64 0, .int .u8 0, .int .u8 0, .int .u8 0, .int .u8 0, .int .u8 0, .int .u8 0, .slice none 0 0] 28)
              replace hz6 := hz6.alloc (.cells #[.int .i64 0, .int .i64 0, .int .i64 0, .int .i64 0, .int .i64 0, .int .i64 0, .int .u8 0, .int .u8 0, .int .u8 0, .int .u8 0, .int .u8 0, .int .u8 0, .slice none 0 0] 28)
              replace hB := hB.trans (hb.mono hw0)
              replace hw0 := Nat.le_trans hw0 hb.size
              refine hK.out _ _ hS8 (fun _ => ?_)
              clear hK K hb
              try simp only [Act.put, List.setIfInBounds_toArray, List.set_cons_zero, List.set_cons_succ]
              clear hS7
              generalize hu8 : v7.alloc (.cells #[.int .i64 0, .int .i64 0, .int .i64 0, .int .i64 0, .int .i64 0, .int .i64 0, .int .u8 0, .int .u8 0, .int .u8 0, .int .u8 0, .int .u8 0, .int .u8 0, .slice none 0 0] 28) = v8 at *
              generalize v7.heap.size = q5 at *
              clear hu8
              refine wpAnyH_ready (rs := [16]) (by kernel_rfl) (by simp) ?_
              refine AllReadyH.cons rfl (fun K hK => ?_) AllReadyH.nil
              · try rw [if_pos (by rfl)]
                refine wp_store_vb' (T := 28) (vs := [.int .i64 y.k, .int .i64 y.pr, .int .i64 y.to, .int .i64 y.po, .int .i64 y.x.v, .int .i64 y.x.m, .int .u8 y.x.b0, .int .u8 y.x.b1, .int .u8 y.x.b2, .int .u8 y.x.i0, .int .u8 y.x.i1, .int .u8 y.x.i2, .slice A2 n2 c2]) none rfl (.tmp 4) (.tmp 16) rfl rfl rfl hz4 rfl agg_rule rfl ?_
                intro v9 hn hg hz
                have hS9 := Vb.grown hS8 hg (by omega)
                replace hz6 := hz6.grown hg (by omega)
                replace hz5 := hz5.grown hg (by omega)
                replace hz4 := hn
                replace hB : Below (w.heap.size + 1) u0 v9 := hB.grown hg hw0 (fun k e => by simp at e; omega)
                replace hw0 := Nat.le_trans hw0 hg.size
                refine hK.out _ _ hS9 (fun _ => ?_)
                clear hK K hn hg hz hS8
                try simp only [Act.put, List.setIfInBounds_toArray, List.set_cons_zero, List.set_cons_succ]
                refine wpAnyH_ready (rs := [17]) (by kernel_rfl) (by simp) ?_
                refine AllReadyH.cons rfl (fun K hK => ?_) AllReadyH.nil
                · try rw [if_pos (by rfl)]
                  refine wp_store_vb' (T := 28) (vs := [.int .i64 z.k, .int .i64 z.pr, .int .i64 z.to, .int .i64 z.po, .int .i64 z.x.v, .int .i64 z.x.m, .int .u8 z.x.b0, .int .u8 z.x.b1, .int .u8 z.x.b2, .int .u8 z.x.i0, .int .u8 z.x.i1, .int .u8 z.x.i2, .slice A3 n3 c3]) none rfl (.tmp 5) (.tmp 21) rfl rfl rfl hz5 rfl agg_rule rfl ?_
                  intro v10 hn hg hz
                  have hS10 := Vb.grown hS9 hg (by omega)
                  replace hz4 := hz4.grown hg (by omega)
                  replace hz6 := hz6.grown hg (by omega)
                  replace hz5 := hn
                  replace hB : Below (w.heap.size + 1) u0 v10 := hB.grown hg hw0 (fun k e => by simp at e; omega)
                  replace hw0 := Nat.le_trans hw0 hg.size
                  refine hK.out _ _ hS10 (fun _ => ?_)
                  clear hK K hn hg hz hS9
                  try simp only [Act.put, List.setIfInBounds_toArray, List.set_cons_zero, List.set_cons_succ]
                  refine wpAnyH_ready (rs := [18]) (by kernel_rfl) (by simp) ?_
                  refine AllReadyH.cons rfl (fun K hK => ?_) AllReadyH.nil
                  · try rw [if_pos (by rfl)]
                    refine wp_store_vb' (T := 28) (vs := [.int .i64 x.k, .int .i64 x.pr, .int .i64 x.to, .int .i64 x.po, .int .i64 x.x.v, .int .i64 x.x.m, .int .u8 x.x.b0, .int .u8 x.x.b1, .int .u8 x.x.b2, .int .u8 x.x.i0, .int .u8 x.x.i1, .int .u8 x.x.i2, .slice A1 n1 c1]) none rfl (.tmp 6) (.tmp 26) rfl rfl rfl hz6 rfl agg_rule rfl ?_
                    intro v11 hn hg hz
                    have hS11 := Vb.grown hS10 hg (by omega)
                    replace hz4 := hz4.grown hg (by omega)
                    replace hz5 := hz5.grown hg (by omega)
                    replace hz6 := hn
                    replace hB : Below (w.heap.size + 1) u0 v11 := hB.grown hg hw0 (fun k e => by simp at e; omega)
                    replace hw0 := Nat.le_trans hw0 hg.size
                    refine hK.out _ _ hS11 (fun _ => ?_)
                    clear hK K hn hg hz hS10
                    try simp only [Act.put, List.setIfInBounds_toArray, List.set_cons_zero, List.set_cons_succ]
                    refine wpAnyH_done (by kernel_rfl) ?_ _
                    have hS := hS11
                    go_wp2_with fail
                    go_meet
                    case rel => exact ⟨y, z, x, .slice A2 n2 c2, .slice A3 n3 c3, .slice A1 n1 c1, _, _, _, rfl, rfl, rfl, ⟨hz4, hz5, hz6⟩, hS, hB1.trans (hB.mono (by omega))⟩
        · try rw [if_pos (by rfl)]
          go_simp
          have hb := below_alloc u0 (.cells #[.int .i64 0, .int .i64 0, .int .i64 0, .int .i64 0, .int .i64 0, .int .i64 0, .int .u8 0, .int .u8 0, .int .u8 0, .int .u8 0, .int .u8 0, .int .u8 0, .slice none 0 0] 28)
          have hz5 := Vb.new 28 u0 [.int .i64 0, .int .i64 0, .int .i64 0, .int .i64 0, .int .i64 0, .int .i64 0, .int .u8 0, .int .u8 0, .int .u8 0, .int .u8 0, .int .u8 0, .int .u8 0, .slice none 0 0]
          have hS12 := Vb.alloc hS0 (.cells #[.int .i64 0, .int .i64 0, .int .i64 0, .int .i64 0, .int .i64 0, .int .i64 0, .int .u8 0, .int .u8 0, .int .u8 0, .int .u8 0, .int .u8 0, .int .u8 0, .slice none 0 0] 28)
          have hl5 := hw0
          replace hB := hB.trans (hb.mono hw0)
          replace hw0 := Nat.le_trans hw0 hb.size
          refine hK.out _ _ hS12 (fun _ => ?_)
          clear hK K hb
          try simp only [Act.put, List.setIfInBounds_toArray, List.set_cons_zero, List.set_cons_succ]
          clear hS0
          generalize hu12 : u0.alloc (.cells #[.int .i64 0, .int .i64 0, .int .i64 0, .int .i64 0, .int .i64 0, .int .i64 0, .int .u8 0, .int .u8 0, .int .u8 0, .int .u8 0, .int .u8 0, .int .u8 0, .slice none 0 0] 28) = v12 at *
          generalize u0.heap.size = q5 at *
          clear hu12
          refine wpAnyH_ready (rs := [13, 15]) (by kernel_rfl) (by simp) ?_
          refine AllReadyH.cons rfl (fun K hK => ?_) (AllReadyH.cons rfl (fun K hK => ?_) AllReadyH.nil)
          · try rw [if_pos (by rfl)]
            go_simp
            have hb := below_alloc v12 (.cells #[.int .i64 0, .int .i64 0, .int .i64 0, .int .i64 0, .int .i64 0, .int .i64 0, .int .u8 0, .int .u8 0, .int .u8 0, .int .u8 0, .int .u8 0, .int .u8 0, .slice none 0 0] 28)
            have hz4 := Vb.new 28 v12 [.int .i64 0, .int .i64 0, .int .i64 0, .int .i64 0, .int .i64 0, .int .i64 0, .int .u8 0, .int .u8 0, .int .u8 0, .int .u8 0, .int .u8 0, .int .u8 0, .slice none 0 0]
            have hS13 := Vb.alloc hS12 (.cells #[.int .i64 0, .int .i64 0, .int .i64 0, .int .i64 0, .int .i64 0, .int .i64 0, .int .u8 0, .int .u8 0, .int .u8 0, .int .u8 0, .int .u8 0, .int .u8 0, .slice none 0 0] 28)
            have hl4 := hw0
            have hlt5_4 := hz5.lt
            replace hz5 := hz5.alloc (.cells #[.int .i64 0, .int .i64 0, .int .i64 0, .int .i64 0, .int .i64 0, .int .i64 0, .int .u8 0, .int .u8 0, .int .u8 0, .int .u8 0, .int .u8 0, .int .u8 0, .slice none 0 0] 28)
            replace hB := hB.trans (hb.mono hw0)
            replace hw0 := Nat.le_trans hw0 hb.size
            refine hK.out _ _ hS13 (fun _ => ?_)
            clear hK K hb
            try simp only [Act.put, List.setIfInBounds_toArray, List.set_cons_zero, List.set_cons_succ]
            clear hS12
            generalize hu13 : v12.alloc (.cells #[.int .i64 0, .int .i64 0, .int .i64 0, .int .i64 0, .int .i64 0, .int .i64 0, .int .u8 0, .int .u8 0, .int .u8 0, .int .u8 0, .int .u8 0, .int .u8 0, .slice none 0 0] 28) = v13 at *
            generalize v12.heap.size = q4 at *
            clear hu13
            refine wpAnyH_ready (rs := [15]) (by kernel_rfl) (by simp) ?_
            refine AllReadyH.cons rfl (fun K hK => ?_) AllReadyH.nil
            · try rw [if_pos (by rfl)]
              go_simp
              have hb := below_alloc v13 (.cells #[.int .i64 0, .int .i64 0, .int .i64 0, .int .i64 0, .int .i64 0, .int .i64 0, .int .u8 0, .int .u8 0, .int .u8 0, .int .u8 0, .int .u8 0, .int .u8 0, .slice none 0 0] 28)
              have hz6 := Vb.new 28 v13 [.int .i64 0, .int .i64 0, .int .i64 0, .int .i64 0, .int .i64 0, .int .i64 0, .int .u8 0, .int .u8 0, .int .u8 0, .int .u8 0, .int .u8 0, .int .u8 0, .slice none 0 0]
              have hS14 := Vb.alloc hS13 (.cells #[.int .i64 0, .int .i64 0, .int .i64 0, .int .i64 0, .int .i64 0, .int .i64 0, .int .u8 0, .int .u8 0, .int .u8 0, .int .u8 0, .int .u8 0, .int .u8 0, .slice none 0 0] 28)
              have hl6 := hw0
              have hlt5_6 := hz5.lt
              have hlt4_6 := hz4.lt
              replace hz5 := hz5.alloc (.cells #[.int .i64 0, .int .i64 0, .int .i64 0, .int .i64 0, .int .i64 0, .int .i64 0, .int .u8 0, .int .u8 0, .int .u8 0, .int .u8 0, .int .u8 0, .int .u8 0, .slice none 0 0] 28)
              replace hz4 := hz4.alloc (.cells #[.int .i64 0, .int .i64 0, .int .i64 0, .int .i64 0, .int .i64 0, .int .i64 0, .int .u8 0, .int .u8 0, .int .u8 0, .int .u8 0, .int .u8 0, .int .u8 0, .slice none 0 0] 28)
              replace hB := hB.trans (hb.mono hw0)
              replace hw0 := Nat.le_trans hw0 hb.size
              refine hK.out _ _ hS14 (fun _ => ?_)
              clear hK K hb
              try simp only [Act.put, List.setIfInBounds_toArray, List.set_cons_zero, List.set_cons_succ]
              clear hS13
              generalize hu14 : v13.alloc (.cells #[.int .i64 0, .int .i64 0, .int .i64 0, .int .i64 0, .int .i64 0, .int .i64 0, .int .u8 0, .int .u8 0, .int .u8 0, .int .u8 0, .int .u8 0, .int .u8 0, .slice none 0 0] 28) = v14 at *
              generalize v13.heap.size = q6 at *
              clear hu14
              refine wpAnyH_ready (rs := [16]) (by kernel_rfl) (by simp) ?_
              refine AllReadyH.cons rfl (fun K hK => ?_) AllReadyH.nil
              · try rw [if_pos (by rfl)]
                refine wp_store_vb' (T := 28) (vs := [.int .i64 y.k, .int .i64 y.pr, .int .i64 y.to, .int .i64 y.po, .int .i64 y.x.v, .int .i64 y.x.m, .int .u8 y.x.b0, .int .u8 y.x.b1, .int .u8 y.x.b2, .int .u8 y.x.i0, .int .u8 y.x.i1, .int .u8 y.x.i2, .slice A2 n2 c2]) none rfl (.tmp 4) (.tmp 16) rfl rfl rfl hz4 rfl agg_rule rfl ?_
                intro v15 hn hg hz
                have hS15 := Vb.grown hS14 hg (by omega)
                replace hz5 := hz5.grown hg (by omega)
                replace hz6 := hz6.grown hg (by omega)
                replace hz4 := hn
                replace hB : Below (w.heap.size + 1) u0 v15 := hB.grown hg hw0 (fun k e => by simp at e; omega)
                replace hw0 := Nat.le_trans hw0 hg.size
                refine hK.out _ _ hS15 (fun _ => ?_)
                clear hK K hn hg hz hS14
                try simp only [Act.put, List.setIfInBounds_toArray, List.set_cons_zero, List.set_cons_succ]
                refine wpAnyH_ready (rs := [17]) (by kernel_rfl) (by simp) ?_
                refine AllReadyH.cons rfl (fun K hK => ?_) AllReadyH.nil
                · try rw [if_pos (by rfl)]
                  refine wp_store_vb' (T := 28) (vs := [.int .i64 z.k, .int .i64 z.pr, .int .i64 z.to, .int .i64 z.po, .int .i64 z.x.v, .int .i64 z.x.m, .int .u8 z.x.b0, .int .u8 z.x.b1, .int .u8 z.x.b2, .int .u8 z.x.i0, .int .u8 z.x.i1, .int .u8 z.x.i2, .slice A3 n3 c3]) none rfl (.tmp 5) (.tmp 21) rfl rfl rfl hz5 rfl agg_rule rfl ?_
                  intro v16 hn hg hz
                  have hS16 := Vb.grown hS15 hg (by omega)
                  replace hz4 := hz4.grown hg (by omega)
                  replace hz6 := hz6.grown hg (by omega)
                  replace hz5 := hn
                  replace hB : Below (w.heap.size + 1) u0 v16 := hB.grown hg hw0 (fun k e => by simp at e; omega)
                  replace hw0 := Nat.le_trans hw0 hg.size
                  refine hK.out _ _ hS16 (fun _ => ?_)
                  clear hK K hn hg hz hS15
                  try simp only [Act.put, List.setIfInBounds_toArray, List.set_cons_zero, List.set_cons_succ]
                  refine wpAnyH_ready (rs := [18]) (by kernel_rfl) (by simp) ?_
                  refine AllReadyH.cons rfl (fun K hK => ?_) AllReadyH.nil
                  · try rw [if_pos (by rfl)]
                    refine wp_store_vb' (T := 28) (vs := [.int .i64 x.k, .int .i64 x.pr, .int .i64 x.to, .int .i64 x.po, .int .i64 x.x.v, .int .i64 x.x.m, .int .u8 x.x.b0, .int .u8 x.x.b1, .int .u8 x.x.b2, .int .u8 x.x.i0, .int .u8 x.x.i1, .int .u8 x.x.i2, .slice A1 n1 c1]) none rfl (.tmp 6) (.tmp 26) rfl rfl rfl hz6 rfl agg_rule rfl ?_
                    intro v17 hn hg hz
                    have hS17 := Vb.grown hS16 hg (by omega)
                    replace hz5 := hz5.grown hg (by omega)
                    replace hz4 := hz4.grown hg (by omega)
                    replace hz6 := hn
                    replace hB : Below (w.heap.size + 1) u0 v17 := hB.grown hg hw0 (fun k e => by simp at e; omega)
                    replace hw0 := Nat.le_trans hw0 hg.size
                    refine hK.out _ _ hS17 (fun _ => ?_)
                    clear hK K hn hg hz hS16
                    try simp only [Act.put, List.setIfInBounds_toArray, List.set_cons_zero, List.set_cons_succ]
                    refine wpAnyH_done (by kernel_rfl) ?_ _
                    have hS := hS17
                    go_wp2_with fail
                    go_meet
                    case rel => exact ⟨y, z, x, .slice A2 n2 c2, .slice A3 n3 c3, .slice A1 n1 c1, _, _, _, rfl, rfl, rfl, ⟨hz4, hz5, hz6⟩, hS, hB1.trans (hB.mono (by omega))⟩
          · try rw [if_pos (by rfl)]
            go_simp
            have hb := below_alloc v12 (.cells #[.int .i64 0, .int .i64 0, .int .i64 0, .int .i64 0, .int .i64 0, .int .i64 0, .int .u8 0, .int .u8 0, .int .u8 0, .int .u8 0, .int .u8 0, .int .u8 0, .slice none 0 0] 28)
            have hz6 := Vb.new 28 v12 [.int .i64 0, .int .i64 0, .int .i64 0, .int .i64 0, .int .i64 0, .int .i64 0, .int .u8 0, .int .u8 0, .int .u8 0, .int .u8 0, .int .u8 0, .int .u8 0, .slice none 0 0]
            have hS18 := Vb.alloc hS12 (.cells #[.int .i64 0, .int .i64 0, .int .i64 0, .int .i64 0, .int .i64 0, .int .i64 0, .int .u8 0, .int .u8 0, .int .u8 0, .int .u8 0, .int .u8 0, .int .u8 0, .slice none 0 0] 28)
            have hl6 := hw0
            have hlt5_6 := hz5.lt
            replace hz5 := hz5.alloc (.cells #[.int .i64 0, .int .i64 0, .int .i64 0, .int .i64 0, .int .i64 0, .int .i64 0, .int .u8 0, .int .u8 0, .int .u8 0, .int .u8 0, .int .u8 0, .int .u8 0, .slice none 0 0] 28)
            replace hB := hB.trans (hb.mono hw0)
            replace hw0 := Nat.le_trans hw0 hb.size
            refine hK.out _ _ hS18 (fun _ => ?_)
            clear hK K hb
            try simp only [Act.put, List.setIfInBounds_toArray, List.set_cons_zero, List.set_cons_succ]
            clear hS12
            generalize hu18 : v12.alloc (.cells #[.int .i64 0, .int .i64 0, .int .i64 0, .int .i64 0, .int .i64 0, .int .i64 0, .int .u8 0, .int .u8 0, .int .u8 0, .int .u8 0, .int .u8 0, .int .u8 0, .slice none 0 0] 28) = v18 at *
            generalize v12.heap.size = q6 at *
            clear hu18
            refine wpAnyH_ready (rs := [13]) (by kernel_rfl) (by simp) ?_
            refine AllReadyH.cons rfl (fun K hK => ?_) AllReadyH.nil
            · try rw [if_pos (by rfl)]
              go_simp
              have hb := below_alloc v18 (.cells #[.int .i64 0, .int .i64 0, .int .i64 0, .int .i64 0, .int .i64 0, .int .i64 0, .int .u8 0, .int .u8 0, .int .u8 0, .int .u8 0, .int .u8 0, .int .u8 0, .slice none 0 0] 28)
              have hz4 := Vb.new 28 v18 [.int .i64 0, .int .i64 0, .int .i64 0, .int .i64 0, .int .i64 0, .int .i64 0, .int .u8 0, .int .u8 0, .int .u8 0, .int .u8 0, .int .u8 0, .int .u8 0, .slice none 0 0]
              have hS19 := Vb.alloc hS18 (.cells #[.int .i64 0, .int .i64 0, .int .i64 0, .int .i64 0, .int .i64 0, .int .i64 0, .int .u8 0, .int .u8 0, .int .u8 0, .int .u8 0, .int .u8 0, .int .u8 0, .slice none 0 0] 28)
              have hl4 := hw0
              have hlt5_4 := hz5.lt
              have hlt6_4 := hz6.lt
              replace hz5 := hz5.alloc (.cells #[.int .i64 0, .int .i64 0, .int .i64 0, .int .i64 0, .int .i64 0, .int .i64 0, .int .u8 0, .int .u8 0, .int .u8 0, .int .u8 0, .int .u8 0, .int .u8 0, .slice none 0 0] 28)
              replace hz6 := hz6.alloc (.cells #[.int .i64 0, .int .i64 0, .int .i64 0, .int .i64 0, .int .i64 0, .int .i64 0, .int .u8 0, .int .u8 0, .int .u8 0, .int .u8 0, .int .u8 0, .int .u8 0, .slice none 0 0] 28)
              replace hB := hB.trans (hb.mono hw0)
              replace hw0 := Nat.le_trans hw0 hb.size
              refine hK.out _ _ hS19 (fun _ => ?_)
              clear hK K hb
              try simp only [Act.put, List.setIfInBounds_toArray, List.set_cons_zero, List.set_cons_succ]
              clear hS18
              generalize hu19 : v18.alloc (.cells #[.int .i64 0, .int .i64 0, .int .i64 0, .int .i64 0, .int .i64 0, .int .i64 0, .int .u8 0, .int .u8 0, .int .u8 0, .int .u8 0, .int .u8 0, .int .u8 0, .slice none 0 0] 28) = v19 at *
              generalize v18.heap.size = q4 at *
              clear hu19
              refine wpAnyH_ready (rs := [16]) (by kernel_rfl) (by simp) ?_
              refine AllReadyH.cons rfl (fun K hK => ?_) AllReadyH.nil
              · try rw [if_pos (by rfl)]
                refine wp_store_vb' (T := 28) (vs := [.int .i64 y.k, .int .i64 y.pr, .int .i64 y.to, .int .i64 y.po, .int .i64 y.x.v, .int .i64 y.x.m, .int .u8 y.x.b0, .int .u8 y.x.b1, .int .u8 y.x.b2, .int .u8 y.x.i0, .int .u8 y.x.i1, .int .u8 y.x.i2, .slice A2 n2 c2]) none rfl (.tmp 4) (.tmp 16) rfl rfl rfl hz4 rfl agg_rule rfl ?_
                intro v20 hn hg hz
                have hS20 := Vb.grown hS19 hg (by omega)
                replace hz5 := hz5.grown hg (by omega)
                replace hz6 := hz6.grown hg (by omega)
                replace hz4 := hn
                replace hB : Below (w.heap.size + 1) u0 v20 := hB.grown hg hw0 (fun k e => by simp at e; omega)
                replace hw0 := Nat.le_trans hw0 hg.size
                refine hK.out _ _ hS20 (fun _ => ?_)
                clear hK K hn hg hz hS19
                try simp only [Act.put, List.setIfInBounds_toArray, List.set_cons_zero, List.set_cons_succ]
                refine wpAnyH_ready (rs := [17]) (by kernel_rfl) (by simp) ?_
                refine AllReadyH.cons rfl (fun K hK => ?_) AllReadyH.nil
                · try rw [if_pos (by rfl)]
                  refine wp_store_vb' (T := 28) (vs := [.int .i64 z.k, .int .i64 z.pr, .int .i64 z.to, .int .i64 z.po, .int .i64 z.x.v, .int .i64 z.x.m, .int .u8 z.x.b0, .int .u8 z.x.b1, .int .u8 z.x.b2, .int .u8 z.x.i0, .int .u8 z.x.i1, .int .u8 z.x.i2, .slice A3 n3 c3]) none rfl (.tmp 5) (.tmp 21) rfl rfl rfl hz5 rfl agg_rule rfl ?_
                  intro v21 hn hg hz
                  have hS21 := Vb.grown hS20 hg (by omega)
                  replace hz6 := hz6.grown hg (by omega)
                  replace hz4 := hz4.grown hg (by omega)
                  replace hz5 := hn
                  replace hB : Below (w.heap.size + 1) u0 v21 := hB.grown hg hw0 (fun k e => by simp at e; omega)
                  replace hw0 := Nat.le_trans hw0 hg.size
                  refine hK.out _ _ hS21 (fun _ => ?_)
                  clear hK K hn hg hz hS20
                  try simp only [Act.put, List.setIfInBounds_toArray, List.set_cons_zero, List.set_cons_succ]
                  refine wpAnyH_ready (rs := [18]) (by kernel_rfl) (by simp) ?_
                  refine AllReadyH.cons rfl (fun K hK => ?_) AllReadyH.nil
                  · try rw [if_pos (by rfl)]
                    refine wp_store_vb' (T := 28) (vs := [.int .i64 x.k, .int .i64 x.pr, .int .i64 x.to, .int .i64 x.po, .int .i64 x.x.v, .int .i64 x.x.m, .int .u8 x.x.b0, .int .u8 x.x.b1, .int .u8 x.x.b2, .int .u8 x.x.i0, .int .u8 x.x.i1, .int .u8 x.x.i2, .slice A1 n1 c1]) none rfl (.tmp 6) (.tmp 26) rfl rfl rfl hz6 rfl agg_rule rfl ?_
                    intro v22 hn hg hz
                    have hS22 := Vb.grown hS21 hg (by omega)
                    replace hz5 := hz5.grown hg (by omega)
                    replace hz4 := hz4.grown hg (by omega)
                    replace hz6 := hn
                    replace hB : Below (w.heap.size + 1) u0 v22 := hB.grown hg hw0 (fun k e => by simp at e; omega)
                    replace hw0 := Nat.le_trans hw0 hg.size
                    refine hK.out _ _ hS22 (fun _ => ?_)
                    clear hK K hn hg hz hS21
                    try simp only [Act.put, List.setIfInBounds_toArray, List.set_cons_zero, List.set_cons_succ]
                    refine wpAnyH_done (by kernel_rfl) ?_ _
                    have hS := hS22
                    go_wp2_with fail
                    go_meet
                    case rel => exact ⟨y, z, x, .slice A2 n2 c2, .slice A3 n3 c3, .slice A1 n1 c1, _, _, _, rfl, rfl, rfl, ⟨hz4, hz5, hz6⟩, hS, hB1.trans (hB.mono (by omega))⟩
        · try rw [if_pos (by rfl)]
          go_simp
          have hb := below_alloc u0 (.cells #[.int .i64 0, .int .i64 0, .int .i64 0, .int .i64 0, .int .i64 0, .int .i64 0, .int .u8 0, .int .u8 0, .int .u8 0, .int .u8 0, .int .u8 0, .int .u8 0, .slice none 0 0] 28)
          have hz6 := Vb.new 28 u0 [.int .i64 0, .int .i64 0, .int .i64 0, .int .i64 0, .int .i64 0, .int .i64 0, .int .u8 0, .int .u8 0, .int .u8 0, .int .u8 0, .int .u8 0, .int .u8 0, .slice none 0 0]
          have hS23 := Vb.alloc hS0 (.cells #[.int .i64 0, .int .i64 0, .int .i64 0, .int .i64 0, .int .i64 0, .int .i64 0, .int .u8 0, .int .u8 0, .int .u8 0, .int .u8 0, .int .u8 0, .int .u8 0, .slice none 0 0] 28)
          have hl6 := hw0
          replace hB := hB.trans (hb.mono hw0)
          replace hw0 := Nat.le_trans hw0 hb.size
          refine hK.out _ _ hS23 (fun _ => ?_)
          clear hK K hb
          try simp only [Act.put, List.setIfInBounds_toArray, List.set_cons_zero, List.set_cons_succ]
          clear hS0
          generalize hu23 : u0.alloc (.cells #[.int .i64 0, .int .i64 0, .int .i64 0, .int .i64 0, .int .i64 0, .int .i64 0, .int .u8 0, .int .u8 0, .int .u8 0, .int .u8 0, .int .u8 0, .int .u8 0, .slice none 0 0] 28) = v23 at *
          generalize u0.heap.size = q6 at *
          clear hu23
          refine wpAnyH_ready (rs := [13, 14]) (by kernel_rfl) (by simp) ?_
          refine AllReadyH.cons rfl (fun K hK => ?_) (AllReadyH.cons rfl (fun K hK => ?_) AllReadyH.nil)
          · try rw [if_pos (by rfl)]
            go_simp
            have hb := below_alloc v23 (.cells #[.int .i64 0, .int .i64 0, .int .i64 0, .int .i64 0, .int .i64 0, .int .i64 0, .int .u8 0, .int .u8 0, .int .u8 0, .int .u8 0, .int .u8 0, .int .u8 0, .slice none 0 0] 28)
            have hz4 := Vb.new 28 v23 [.int .i64 0, .int .i64 0, .int .i64 0, .int .i64 0, .int .i64 0, .int .i64 0, .int .u8 0, .int .u8 0, .int .u8 0, .int .u8 0, .int .u8 0, .int .u8 0, .slice none 0 0]
            have hS24 := Vb.alloc hS23 (.cells #[.int .i64 0, .int .i64 0, .int .i64 0, .int .i64 0, .int .i64 0, .int .i64 0, .int .u8 0, .int .u8 0, .int .u8 0, .int .u8 0, .int .u8 0, .int .u8 0, .slice none 0 0] 28)
            have hl4 := hw0
            have hlt6_4 := hz6.lt
            replace hz6 := hz6.alloc (.cells #[.int .i64 0, .int .i64 0, .int .i64 0, .int .i64 0, .int .i64 0, .int .i64 0, .int .u8 0, .int .u8 0, .int .u8 0, .int .u8 0, .int .u8 0, .int .u8 0, .slice none 0 0] 28)
            replace hB := hB.trans (hb.mono hw0)
            replace hw0 := Nat.le_trans hw0 hb.size
            refine hK.out _ _ hS24 (fun _ => ?_)
            clear hK K hb
            try simp only [Act.put, List.setIfInBounds_toArray, List.set_cons_zero, List.set_cons_succ]
            clear hS23
            generalize hu24 : v23.alloc (.cells #[.int .i64 0, .int .i64 0, .int .i64 0, .int .i64 0, .int .i64 0, .int .i64 0, .int .u8 0, .int .u8 0, .int .u8 0, .int .u8 0, .int .u8 0, .int .u8 0, .slice none 0 0] 28) = v24 at *
            generalize v23.heap.size = q4 at *
            clear hu24
            refine wpAnyH_ready (rs := [14]) (by kernel_rfl) (by simp) ?_
            refine AllReadyH.cons rfl (fun K hK => ?_) AllReadyH.nil
            · try rw [if_pos (by rfl)]
              go_simp
              have hb := below_alloc v24 (.cells #[.int .i64 0, .int .i64 0, .int .i64 0, .int .i64 0, .int .i64 0, .int .i64 0, .int .u8 0, .int .u8 0, .int .u8 0, .int .u8 0, .int .u8 0, .int .u8 0, .slice none 0 0] 28)
              have hz5 := Vb.new 28 v24 [.int .i64 0, .int .i64 0, .int .i64 0, .int .i64 0, .int .i64 0, .int .i64 0, .int .u8 0, .int .u8 0, .int .u8 0, .int .u8 0, .int .u8 0, .int .u8 0, .slice none 0 0]
              have hS25 := Vb.alloc hS24 (.cells #[.int .i64 0, .int .i64 0, .int .i64 0, .int .i64 0, .int .i64 0, .int .i64 0, .int .u8 0, .int .u8 0, .int .u8 0, .int .u8 0, .int .u8 0, .int .u8 0, .slice none 0 0] 28)
              have hl5 := hw0
              have hlt6_5 := hz6.lt
              have hlt4_5 := hz4.lt
              replace hz6 := hz6.alloc (.cells #[.int .i64 0, .int .i64 0, .int .i64 0, .int .i64 0, .int .i64 0, .int .i64 0, .int .u8 0, .int .u8 0, .int .u8 0, .int .u8 0, .int .u8 0, .int .u8 0, .slice none 0 0] 28)
              replace hz4 := hz4.alloc (.cells #[.int .i64 0, .int .i64 0, .int .i64 0, .int .i64 0, .int .i64 0, .int .i64 0, .int .u8 0, .int .u8 0, .int .u8 0, .int .u8 0, .int .u8 0, .int .u8 0, .slice none 0 0] 28)
              replace hB := hB.trans (hb.mono hw0)
              replace hw0 := Nat.le_trans hw0 hb.size
              refine hK.out _ _ hS25 (fun _ => ?_)
              clear hK K hb
              try simp only [Act.put, List.setIfInBounds_toArray, List.set_cons_zero, List.set_cons_succ]
              clear hS24
              generalize hu25 : v24.alloc (.cells #[.int .i64 0, .int .i64 0, .int .i64 0, .int .i64 0, .int .i64 0, .int .i64 0, .int .u8 0, .int .u8 0, .int .u8 0, .int .u8 0, .int .u8 0, .int .u8 0, .slice none 0 0] 28) = v25 at *
              generalize v24.heap.size = q5 at *
              clear hu25
              refine wpAnyH_ready (rs := [16]) (by kernel_rfl) (by simp) ?_
              refine AllReadyH.cons rfl (fun K hK => ?_) AllReadyH.nil
              · try rw [if_pos (by rfl)]
                refine wp_store_vb' (T := 28) (vs := [.int .i64 y.k, .int .i64 y.pr, .int .i64 y.to, .int .i64 y.po, .int .i64 y.x.v, .int .i64 y.x.m, .int .u8 y.x.b0, .int .u8 y.x.b1, .int .u8 y.x.b2, .int .u8 y.x.i0, .int .u8 y.x.i1, .int .u8 y.x.i2, .slice A2 n2 c2]) none rfl (.tmp 4) (.tmp 16) rfl rfl rfl hz4 rfl agg_rule rfl ?_
                intro v26 hn hg hz
                have hS26 := Vb.grown hS25 hg (by omega)
                replace hz6 := hz6.grown hg (by omega)
                replace hz5 := hz5.grown hg (by omega)
                replace hz4 := hn
                replace hB : Below (w.heap.size + 1) u0 v26 := hB.grown hg hw0 (fun k e => by simp at e; omega)
                replace hw0 := Nat.le_trans hw0 hg.size
                refine hK.out _ _ hS26 (fun _ => ?_)
                clear hK K hn hg hz hS25
                try simp only [Act.put, List.setIfInBounds_toArray, List.set_cons_zero, List.set_cons_succ]
                refine wpAnyH_ready (rs := [17]) (by kernel_rfl) (by simp) ?_
                refine AllReadyH.cons rfl (fun K hK => ?_) AllReadyH.nil
                · try rw [if_pos (by rfl)]
                  refine wp_store_vb' (T := 28) (vs := [.int .i64 z.k, .int .i64 z.pr, .int .i64 z.to, .int .i64 z.po, .int .i64 z.x.v, .int .i64 z.x.m, .int .u8 z.x.b0, .int .u8 z.x.b1, .int .u8 z.x.b2, .int .u8 z.x.i0, .int .u8 z.x.i1, .int .u8 z.x.i2, .slice A3 n3 c3]) none rfl (.tmp 5) (.tmp 21) rfl rfl rfl hz5 rfl agg_rule rfl ?_
                  intro v27 hn hg hz
                  have hS27 := Vb.grown hS26 hg (by omega)
                  replace hz6 := hz6.grown hg (by omega)
                  replace hz4 := hz4.grown hg (by omega)
                  replace hz5 := hn
                  replace hB : Below (w.heap.size + 1) u0 v27 := hB.grown hg hw0 (fun k e => by simp at e; omega)
                  replace hw0 := Nat.le_trans hw0 hg.size
                  refine hK.out _ _ hS27 (fun _ => ?_)
                  clear hK K hn hg hz hS26
                  try simp only [Act.put, List.setIfInBounds_toArray, List.set_cons_zero, List.set_cons_succ]
                  refine wpAnyH_ready (rs := [18]) (by kernel_rfl) (by simp) ?_
                  refine AllReadyH.cons rfl (fun K hK => ?_) AllReadyH.nil
                  · try rw [if_pos (by rfl)]
                    refine wp_store_vb' (T := 28) (vs := [.int .i64 x.k, .int .i64 x.pr, .int .i64 x.to, .int .i64 x.po, .int .i64 x.x.v, .int .i64 x.x.m, .int .u8 x.x.b0, .int .u8 x.x.b1, .int .u8 x.x.b2, .int .u8 x.x.i0, .int .u8 x.x.i1, .int .u8 x.x.i2, .slice A1 n1 c1]) none rfl (.tmp 6) (.tmp 26) rfl rfl rfl hz6 rfl agg_rule rfl ?_
                    intro v28 hn hg hz
                    have hS28 := Vb.grown hS27 hg (by omega)
                    replace hz4 := hz4.grown hg (by omega)
                    replace hz5 := hz5.grown hg (by omega)
                    replace hz6 := hn
                    replace hB : Below (w.heap.size + 1) u0 v28 := hB.grown hg hw0 (fun k e => by simp at e; omega)
                    replace hw0 := Nat.le_trans hw0 hg.size
                    refine hK.out _ _ hS28 (fun _ => ?_)
                    clear hK K hn hg hz hS27
                    try simp only [Act.put, List.setIfInBounds_toArray, List.set_cons_zero, List.set_cons_succ]
                    refine wpAnyH_done (by kernel_rfl) ?_ _
                    have hS := hS28
                    go_wp2_with fail
                    go_meet
                    case rel => exact ⟨y, z, x, .slice A2 n2 c2, .slice A3 n3 c3, .slice A1 n1 c1, _, _, _, rfl, rfl, rfl, ⟨hz4, hz5, hz6⟩, hS, hB1.trans (hB.mono (by omega))⟩
          · try rw [if_pos (by rfl)]
            go_simp
            have hb := below_alloc v23 (.cells #[.int .i64 0, .int .i64 0, .int .i64 0, .int .i64 0, .int .i64 0, .int .i64 0, .int .u8 0, .int .u8 0, .int .u8 0, .int .u8 0, .int .u8 0, .int .u8 0, .slice none 0 0] 28)
            have hz5 := Vb.new 28 v23 [.int .i64 0, .int .i64 0, .int .i64 0, .int .i64 0, .int .i64 0, .int .i64 0, .int .u8 0, .int .u8 0, .int .u8 0, .int .u8 0, .int .u8 0, .int .u8 0, .slice none 0 0]
            have hS29 := Vb.alloc hS23 (.cells #[.int .i64 0, .int .i64 0, .int .i64 0, .int .i64 0, .int .i64 0, .int .i64 0, .int .u8 0, .int .u8 0, .int .u8 0, .int .u8 0, .int .u8 0, .int .u8 0, .slice none 0 0] 28)
            have hl5 := hw0
            have hlt6_5 := hz6.lt
            replace hz6 := hz6.alloc (.cells #[.int .i64 0, .int .i64 0, .int .i64 0, .int .i64 0, .int .i64 0, .int .i64 0, .int .u8 0, .int .u8 0, .int .u8 0, .int .u8 0, .int .u8 0, .int .u8 0, .slice none 0 0] 28)
            replace hB := hB.trans (hb.mono hw0)
            replace hw0 := Nat.le_trans hw0 hb.size
            refine hK.out _ _ hS29 (fun _ => ?_)
            clear hK K hb
            try simp only [Act.put, List.setIfInBounds_toArray, List.set_cons_zero, List.set_cons_succ]
            clear hS23
            generalize hu29 : v23.alloc (.cells #[.int .i64 0, .int .i64 0, .int .i64 0, .int .i64 0, .int .i64 0, .int .i64 0, .int .u8 0, .int .u8 0, .int .u8 0, .int .u8 0, .int .u8 0, .int .u8 0, .slice none 0 0] 28) = v29 at *
            generalize v23.heap.size = q5 at *
            clear hu29
            refine wpAnyH_ready (rs := [13]) (by kernel_rfl) (by simp) ?_
            refine AllReadyH.cons rfl (fun K hK => ?_) AllReadyH.nil
            · try rw [if_pos (by rfl)]
              go_simp
              have hb := below_alloc v29 (.cells #[.int .i64 0, .int .i64 0, .int .i64 0, .int .i64 0, .int .i64 0, .int .i64 0, .int .u8 0, .int .u8 0, .int .u8 0, .int .u8 0, .int .u8 0, .int .u8 0, .slice none 0 0] 28)
              have hz4 := Vb.new 28 v29 [.int .i64 0, .int .i64 0, .int .i64 0, .int .i64 0, .int .i64 0, .int .i64 0, .int .u8 0, .int .u8 0, .int .u8 0, .int .u8 0, .int .u8 0, .int .u8 0, .slice none 0 0]
              have hS30 := Vb.alloc hS29 (.cells #[.int .i64 0, .int .i64 0, .int .i64 0, .int .i64 0, .int .i64 0, .int .i64 0, .int .u8 0, .int .u8 0, .int .u8 0, .int .u8 0, .int .u8 0, .int .u8 0, .slice none 0 0] 28)
              have hl4 := hw0
              have hlt6_4 := hz6.lt
              have hlt5_4 := hz5.lt
              replace hz6 := hz6.alloc (.cells #[.int .i64 0, .int .i64 0, .int .i64 0, .int .i64 0, .int .i64 0, .int .i64 0, .int .u8 0, .int .u8 0, .int .u8 0, .int .u8 0, .int .u8 0, .int .u8 0, .slice none 0 0] 28)
              replace hz5 := hz5.alloc (.cells #[.int .i64 0, .int .i64 0, .int .i64 0, .int .i64 0, .int .i64 0, .int .i64 0, .int .u8 0, .int .u8 0, .int .u8 0, .int .u8 0, .int .u8 0, .int .u8 0, .slice none 0 0] 28)
              replace hB := hB.trans (hb.mono hw0)
              replace hw0 := Nat.le_trans hw0 hb.size
              refine hK.out _ _ hS30 (fun _ => ?_)
              clear hK K hb
              try simp only [Act.put, List.setIfInBounds_toArray, List.set_cons_zero, List.set_cons_succ]
              clear hS29
              generalize hu30 : v29.alloc (.cells #[.int .i64 0, .int .i64 0, .int .i64 0, .int .i64 0, .int .i64 0, .int .i64 0, .int .u8 0, .int .u8 0, .int .u8 0, .int .u8 0, .int .u8 0, .int .u8 0, .slice none 0 0] 28) = v30 at *
              generalize v29.heap.size = q4 at *
              clear hu30
              refine wpAnyH_ready (rs := [16]) (by kernel_rfl) (by simp) ?_
              refine AllReadyH.cons rfl (fun K hK => ?_) AllReadyH.nil
              · try rw [if_pos (by rfl)]
                refine wp_store_vb' (T := 28) (vs := [.int .i64 y.k, .int .i64 y.pr, .int .i64 y.to, .int .i64 y.po, .int .i64 y.x.v, .int .i64 y.x.m, .int .u8 y.x.b0, .int .u8 y.x.b1, .int .u8 y.x.b2, .int .u8 y.x.i0, .int .u8 y.x.i1, .int .u8 y.x.i2, .slice A2 n2 c2]) none rfl (.tmp 4) (.tmp 16) rfl rfl rfl hz4 rfl agg_rule rfl ?_
                intro v31 hn hg hz
                have hS31 := Vb.grown hS30 hg (by omega)
                replace hz6 := hz6.grown hg (by omega)
                replace hz5 := hz5.grown hg (by omega)
                replace hz4 := hn
                replace hB : Below (w.heap.size + 1) u0 v31 := hB.grown hg hw0 (fun k e => by simp at e; omega)
                replace hw0 := Nat.le_trans hw0 hg.size
                refine hK.out _ _ hS31 (fun _ => ?_)
                clear hK K hn hg hz hS30
                try simp only [Act.put, List.setIfInBounds_toArray, List.set_cons_zero, List.set_cons_succ]
                refine wpAnyH_ready (rs := [17]) (by kernel_rfl) (by simp) ?_
                refine AllReadyH.cons rfl (fun K hK => ?_) AllReadyH.nil
                · try rw [if_pos (by rfl)]
                  refine wp_store_vb' (T := 28) (vs := [.int .i64 z.k, .int .i64 z.pr, .int .i64 z.to, .int .i64 z.po, .int .i64 z.x.v, .int .i64 z.x.m, .int .u8 z.x.b0, .int .u8 z.x.b1, .int .u8 z.x.b2, .int .u8 z.x.i0, .int .u8 z.x.i1, .int .u8 z.x.i2, .slice A3 n3 c3]) none rfl (.tmp 5) (.tmp 21) rfl rfl rfl hz5 rfl agg_rule rfl ?_
                  intro v32 hn hg hz
                  have hS32 := Vb.grown hS31 hg (by omega)
                  replace hz6 := hz6.grown hg (by omega)
                  replace hz4 := hz4.grown hg (by omega)
                  replace hz5 := hn
                  replace hB : Below (w.heap.size + 1) u0 v32 := hB.grown hg hw0 (fun k e => by simp at e; omega)
                  replace hw0 := Nat.le_trans hw0 hg.size
                  refine hK.out _ _ hS32 (fun _ => ?_)
                  clear hK K hn hg hz hS31
                  try simp only [Act.put, List.setIfInBounds_toArray, List.set_cons_zero, List.set_cons_succ]
                  refine wpAnyH_ready (rs := [18]) (by kernel_rfl) (by simp) ?_
                  refine AllReadyH.cons rfl (fun K hK => ?_) AllReadyH.nil
                  · try rw [if_pos (by rfl)]
                    refine wp_store_vb' (T := 28) (vs := [.int .i64 x.k, .int .i64 x.pr, .int .i64 x.to, .int .i64 x.po, .int .i64 x.x.v, .int .i64 x.x.m, .int .u8 x.x.b0, .int .u8 x.x.b1, .int .u8 x.x.b2, .int .u8 x.x.i0, .int .u8 x.x.i1, .int .u8 x.x.i2, .slice A1 n1 c1]) none rfl (.tmp 6) (.tmp 26) rfl rfl rfl hz6 rfl agg_rule rfl ?_
                    intro v33 hn hg hz
                    have hS33 := Vb.grown hS32 hg (by omega)
                    replace hz5 := hz5.grown hg (by omega)
                    replace hz4 := hz4.grown hg (by omega)
                    replace hz6 := hn
                    replace hB : Below (w.heap.size + 1) u0 v33 := hB.grown hg hw0 (fun k e => by simp at e; omega)
                    replace hw0 := Nat.le_trans hw0 hg.size
                    refine hK.out _ _ hS33 (fun _ => ?_)
                    clear hK K hn hg hz hS32
                    try simp only [Act.put, List.setIfInBounds_toArray, List.set_cons_zero, List.set_cons_succ]
                    refine wpAnyH_done (by kernel_rfl) ?_ _
                    have hS := hS33
                    go_wp2_with fail
                    go_meet
                    case rel => exact ⟨y, z, x, .slice A2 n2 c2, .slice A3 n3 c3, .slice A1 n1 c1, _, _, _, rfl, rfl, rfl, ⟨hz4, hz5, hz6⟩, hS, hB1.trans (hB.mono (by omega))⟩
      · refine wp_region_held_drew (S := fun W => Vb 35 W w.heap.size [.int .i64 x.k, .int .i64 x.pr, .int .i64 x.to, .int .i64 x.po, .int .i64 x.x.v, .int .i64 x.x.m, .int .u8 x.x.b0, .int .u8 x.x.b1, .int .u8 x.x.b2, .int .u8 x.x.i0, .int .u8 x.x.i1, .int .u8 x.x.i2, .slice A1 n1 c1, .int .i64 y.k, .int .i64 y.pr, .int .i64 y.to, .int .i64 y.po, .int .i64 y.x.v, .int .i64 y.x.m, .int .u8 y.x.b0, .int .u8 y.x.b1, .int .u8 y.x.b2, .int .u8 y.x.i0, .int .u8 y.x.i1, .int .u8 y.x.i2, .slice A2 n2 c2, .int .i64 z.k, .int .i64 z.pr, .int .i64 z.to, .int .i64 z.po, .int .i64 z.x.v, .int .i64 z.x.m, .int .u8 z.x.b0, .int .u8 z.x.b1, .int .u8 z.x.b2, .int .u8 z.x.i0, .int .u8 z.x.i1, .int .u8 z.x.i2, .slice A3 n3 c3]) (by kernel_rfl) hS0 (fun _ => ?_)
        generalize wr.drew = u0 at *
        have hB : Below (w.heap.size + 1) u0 u0 := Below.refl _ _
        refine takeD (i := 0) (v := .int .i64 2) (some 14) rfl rfl (by kernel_rfl) (by kernel_rfl) (by kernel_rfl) (fun _ _ _ h => h) (Or.inl ⟨by rfl, ?_⟩) hS0 ?_
        · rintro w' s0
          go_simp
          try rfl
        try simp only [Act.put, List.setIfInBounds_toArray, List.set_cons_zero, List.set_cons_succ]
        refine takeD (i := 1) (v := .pointer (some ⟨w.heap.size, 26, none⟩)) (some 15) rfl rfl (by kernel_rfl) (by kernel_rfl) (by kernel_rfl) (fun _ _ _ h => h) (Or.inl ⟨by rfl, ?_⟩) hS0 ?_
        · rintro w' s0
          go_simp
          try rfl
        try simp only [Act.put, List.setIfInBounds_toArray, List.set_cons_zero, List.set_cons_succ]
        refine takeD (i := 2) (v := .agg #[.int .i64 z.k, .int .i64 z.pr, .int .i64 z.to, .int .i64 z.po, .int .i64 z.x.v, .int .i64 z.x.m, .int .u8 z.x.b0, .int .u8 z.x.b1, .int .u8 z.x.b2, .int .u8 z.x.i0, .int .u8 z.x.i1, .int .u8 z.x.i2, .slice A3 n3 c3]) (some 16) rfl rfl (by kernel_rfl) (by kernel_rfl) (by kernel_rfl) (fun _ _ _ h => h) (Or.inl ⟨by rfl, ?_⟩) hS0 ?_
        · rintro w' s0
          have d0 := s0.cell 26 rfl
          have d1 := s0.cell 27 rfl
          have d2 := s0.cell 28 rfl
          have d3 := s0.cell 29 rfl
          have d4 := s0.cell 30 rfl
          have d5 := s0.cell 31 rfl
          have d6 := s0.cell 32 rfl
          have d7 := s0.cell 33 rfl
          have d8 := s0.cell 34 rfl
          have d9 := s0.cell 35 rfl
          have d10 := s0.cell 36 rfl
          have d11 := s0.cell 37 rfl
          have d12 := s0.cell 38 rfl
          go_simp
          try rfl
        try simp only [Act.put, List.setIfInBounds_toArray, List.set_cons_zero, List.set_cons_succ]
        refine takeD (i := 3) (v := .int .i64 2) (some 17) rfl rfl (by kernel_rfl) (by kernel_rfl) (by kernel_rfl) (fun _ _ _ h => h) (Or.inl ⟨by rfl, ?_⟩) hS0 ?_
        · rintro w' s0
          go_simp
          try rfl
        try simp only [Act.put, List.setIfInBounds_toArray, List.set_cons_zero, List.set_cons_succ]
        refine takeD (i := 4) (v := .int .i64 3) (some 18) rfl rfl (by kernel_rfl) (by kernel_rfl) (by kernel_rfl) (fun _ _ _ h => h) (Or.inl ⟨by rfl, ?_⟩) hS0 ?_
        · rintro w' s0
          go_simp
          try rfl
        try simp only [Act.put, List.setIfInBounds_toArray, List.set_cons_zero, List.set_cons_succ]
        refine takeD (i := 5) (v := .int .i64 0) (some 19) rfl rfl (by kernel_rfl) (by kernel_rfl) (by kernel_rfl) (fun _ _ _ h => h) (Or.inl ⟨by rfl, ?_⟩) hS0 ?_
        · rintro w' s0
          go_simp
          try rfl
        try simp only [Act.put, List.setIfInBounds_toArray, List.set_cons_zero, List.set_cons_succ]
        refine takeD (i := 6) (v := .pointer (some ⟨w.heap.size, 0, none⟩)) (some 20) rfl rfl (by kernel_rfl) (by kernel_rfl) (by kernel_rfl) (fun _ _ _ h => h) (Or.inl ⟨by rfl, ?_⟩) hS0 ?_
        · rintro w' s0
          go_simp
          try rfl
        try simp only [Act.put, List.setIfInBounds_toArray, List.set_cons_zero, List.set_cons_succ]
        refine takeD (i := 7) (v := .agg #[.int .i64 x.k, .int .i64 x.pr, .int .i64 x.to, .int .i64 x.po, .int .i64 x.x.v, .int .i64 x.x.m, .int .u8 x.x.b0, .int .u8 x.x.b1, .int .u8 x.x.b2, .int .u8 x.x.i0, .int .u8 x.x.i1, .int .u8 x.x.i2, .slice A1 n1 c1]) (some 21) rfl rfl (by kernel_rfl) (by kernel_rfl) (by kernel_rfl) (fun _ _ _ h => h) (Or.inl ⟨by rfl, ?_⟩) hS0 ?_
        · rintro w' s0
          have d0 := s0.cell 0 rfl
          have d1 := s0.cell 1 rfl
          have d2 := s0.cell 2 rfl
          have d3 := s0.cell 3 rfl
          have d4 := s0.cell 4 rfl
          have d5 := s0.cell 5 rfl
          have d6 := s0.cell 6 rfl
          have d7 := s0.cell 7 rfl
          have d8 := s0.cell 8 rfl
          have d9 := s0.cell 9 rfl
          have d10 := s0.cell 10 rfl
          have d11 := s0.cell 11 rfl
          have d12 := s0.cell 12 rfl
          go_simp
          try rfl
        try simp only [Act.put, List.setIfInBounds_toArray, List.set_cons_zero, List.set_cons_succ]
        refine takeD (i := 8) (v := .int .i64 2) (some 22) rfl rfl (by kernel_rfl) (by kernel_rfl) (by kernel_rfl) (fun _ _ _ h => h) (Or.inl ⟨by rfl, ?_⟩) hS0 ?_
        · rintro w' s0
          go_simp
          try rfl
        try simp only [Act.put, List.setIfInBounds_toArray, List.set_cons_zero, List.set_cons_succ]
        refine takeD (i := 9) (v := .int .i64 4) (some 23) rfl rfl (by kernel_rfl) (by kernel_rfl) (by kernel_rfl) (fun _ _ _ h => h) (Or.inl ⟨by rfl, ?_⟩) hS0 ?_
        · rintro w' s0
          go_simp
          try rfl
        try simp only [Act.put, List.setIfInBounds_toArray, List.set_cons_zero, List.set_cons_succ]
        refine takeD (i := 10) (v := .int .i64 1) (some 24) rfl rfl (by kernel_rfl) (by kernel_rfl) (by kernel_rfl) (fun _ _ _ h => h) (Or.inl ⟨by rfl, ?_⟩) hS0 ?_
        · rintro w' s0
          go_simp
          try rfl
        try simp only [Act.put, List.setIfInBounds_toArray, List.set_cons_zero, List.set_cons_succ]
        refine takeD (i := 11) (v := .pointer (some ⟨w.heap.size, 13, none⟩)) (some 25) rfl rfl (by kernel_rfl) (by kernel_rfl) (by kernel_rfl) (fun _ _ _ h => h) (Or.inl ⟨by rfl, ?_⟩) hS0 ?_
        · rintro w' s0
          go_simp
          try rfl
        try simp only [Act.put, List.setIfInBounds_toArray, List.set_cons_zero, List.set_cons_succ]
        refine takeD (i := 12) (v := .agg #[.int .i64 y.k, .int .i64 y.pr, .int .i64 y.to, .int .i64 y.po, .int .i64 y.x.v, .int .i64 y.x.m, .int .u8 y.x.b0, .int .u8 y.x.b1, .int .u8 y.x.b2, .int .u8 y.x.i0, .int .u8 y.x.i1, .int .u8 y.x.i2, .slice A2 n2 c2]) (some 26) rfl rfl (by kernel_rfl) (by kernel_rfl) (by kernel_rfl) (fun _ _ _ h => h) (Or.inl ⟨by rfl, ?_⟩) hS0 ?_
        · rintro w' s0
          have d0 := s0.cell 13 rfl
          have d1 := s0.cell 14 rfl
          have d2 := s0.cell 15 rfl
          have d3 := s0.cell 16 rfl
          have d4 := s0.cell 17 rfl
          have d5 := s0.cell 18 rfl
          have d6 := s0.cell 19 rfl
          have d7 := s0.cell 20 rfl
          have d8 := s0.cell 21 rfl
          have d9 := s0.cell 22 rfl
          have d10 := s0.cell 23 rfl
          have d11 := s0.cell 24 rfl
          have d12 := s0.cell 25 rfl
          go_simp
          try rfl
        try simp only [Act.put, List.setIfInBounds_toArray, List.set_cons_zero, List.set_cons_succ]
        refine wpAnyH_ready (rs := [13, 14, 15]) (by kernel_rfl) (by simp) ?_
        refine AllReadyH.cons rfl (fun K hK => ?_) (AllReadyH.cons rfl (fun K hK => ?_) (AllReadyH.cons rfl (fun K hK => ?_) AllReadyH.nil))
        · try rw [if_pos (by rfl)]
          go_simp
          have hb := below_alloc u0 (.cells #[.int .i64 0, .int .i64 0, .int .i64 0, .int .i64 0, .int .i64 0, .int .i64 0, .int .u8 0, .int .u8 0, .int .u8 0, .int .u8 0, .int .u8 0, .int .u8 0, .slice none 0 0] 28)
          have hz4 := Vb.new 28 u0 [.int .i64 0, .int .i64 0, .int .i64 0, .int .i64 0, .int .i64 0, .int .i64 0, .int .u8 0, .int .u8 0, .int .u8 0, .int .u8 0, .int .u8 0, .int .u8 0, .slice none 0 0]
          have hS1 := Vb.alloc hS0 (.cells #[.int .i64 0, .int .i64 0, .int .i64 0, .int .i64 0, .int .i64 0, .int .i64 0, .int .u8 0, .int .u8 0, .int .u8 0, .int .u8 0, .int .u8 0, .int .u8 0, .slice none 0 0] 28)
          have hl4 := hw0
          replace hB := hB.trans (hb.mono hw0)
          replace hw0 := Nat.le_trans hw0 hb.size
          refine hK.out _ _ hS1 (fun _ => ?_)
          clear hK K hb
          try simp only [Act.put, List.setIfInBounds_toArray, List.set_cons_zero, List.set_cons_succ]
          clear hS0
          generalize hu1 : u0.alloc (.cells #[.int .i64 0, .int .i64 0, .int .i64 0, .int .i64 0, .int .i64 0, .int .i64 0, .int .u8 0, .int .u8 0, .int .u8 0, .int .u8 0, .int .u8 0, .int .u8 0, .slice none 0 0] 28) = v1 at *
          generalize u0.heap.size = q4 at *
          clear hu1
          refine wpAnyH_ready (rs := [14, 15]) (by kernel_rfl) (by simp) ?_
          refine AllReadyH.cons rfl (fun K hK => ?_) (AllReadyH.cons rfl (fun K hK => ?_) AllReadyH.nil)
          · try rw [if_pos (by rfl)]
            go_simp
            have hb := below_alloc v1 (.cells #[.int .i64 0, .int .i64 0, .int .i64 0, .int .i64 0, .int .i64 0, .int .i64 0, .int .u8 0, .int .u8 0, .int .u8 0, .int .u8 0, .int .u8 0, .int .u8 0, .slice none 0 0] 28)
            have hz5 := Vb.new 28 v1 [.int .i64 0, .int .i64 0, .int .i64 0, .int .i64 0, .int .i64 0, .int .i64 0, .int .u8 0, .int .u8 0, .int .u8 0, .int .u8 0, .int .u8 0, .int .u8 0, .slice none 0 0]
            have hS2 := Vb.alloc hS1 (.cells #[.int .i64 0, .int .i64 0, .int .i64 0, .int .i64 0, .int .i64 0, .int .i64 0, .int .u8 0, .int .u8 0, .int .u8 0, .int .u8 0, .int .u8 0, .int .u8 0, .slice none 0 0] 28)
            have hl5 := hw0
            have hlt4_5 := hz4.lt
            replace hz4 := hz4.alloc (.cells #[.int .i64 0, .int .i64 0, .int .i64 0, .int .i64 0, .int .i64 0, .int .i64 0, .int .u8 0, .int .u8 0, .int .u8 0, .int .u8 0, .int .u8 0, .int .u8 0, .slice none 0 0] 28)
            replace hB := hB.trans (hb.mono hw0)
            replace hw0 := Nat.le_trans hw0 hb.size
            refine hK.out _ _ hS2 (fun _ => ?_)
            clear hK K hb
            try simp only [Act.put, List.setIfInBounds_toArray, List.set_cons_zero, List.set_cons_succ]
            clear hS1
            generalize hu2 : v1.alloc (.cells #[.int .i64 0, .int .i64 0, .int .i64 0, .int .i64 0, .int .i64 0, .int .i64 0, .int .u8 0, .int .u8 0, .int .u8 0, .int .u8 0, .int .u8 0, .int .u8 0, .slice none 0 0] 28) = v2 at *
            generalize v1.heap.size = q5 at *
            clear hu2
            refine wpAnyH_ready (rs := [15]) (by kernel_rfl) (by simp) ?_
            refine AllReadyH.cons rfl (fun K hK => ?_) AllReadyH.nil
            · try rw [if_pos (by rfl)]
              go_simp
              have hb := below_alloc v2 (.cells #[.int .i64 0, .int .i64 0, .int .i64 0, .int .i64 0, .int .i64 0, .int .i64 0, .int .u8 0, .int .u8 0, .int .u8 0, .int .u8 0, .int .u8 0, .int .u8 0, .slice none 0 0] 28)
              have hz6 := Vb.new 28 v2 [.int .i64 0, .int .i64 0, .int .i64 0, .int .i64 0, .int .i64 0, .int .i64 0, .int .u8 0, .int .u8 0, .int .u8 0, .int .u8 0, .int .u8 0, .int .u8 0, .slice none 0 0]
              have hS3 := Vb.alloc hS2 (.cells #[.int .i64 0, .int .i64 0, .int .i64 0, .int .i64 0, .int .i64 0, .int .i64 0, .int .u8 0, .int .u8 0, .int .u8 0, .int .u8 0, .int .u8 0, .int .u8 0, .slice none 0 0] 28)
              have hl6 := hw0
              have hlt4_6 := hz4.lt
              have hlt5_6 := hz5.lt
              replace hz4 := hz4.alloc (.cells #[.int .i64 0, .int .i64 0, .int .i64 0, .int .i64 0, .int .i64 0, .int .i64 0, .int .u8 0, .int .u8 0, .int .u8 0, .int .u8 0, .int .u8 0, .int .u8 0, .slice none 0 0] 28)
              replace hz5 := hz5.alloc (.cells #[.int .i64 0, .int .i64 0, .int .i64 0, .int .i64 0, .int .i64 0, .int .i64 0, .int .u8 0, .int .u8 0, .int .u8 0, .int .u8 0, .int .u8 0, .int .u8 0, .slice none 0 0] 28)
              replace hB := hB.trans (hb.mono hw0)
              replace hw0 := Nat.le_trans hw0 hb.size
              refine hK.out _ _ hS3 (fun _ => ?_)
              clear hK K hb
              try simp only [Act.put, List.setIfInBounds_toArray, List.set_cons_zero, List.set_cons_succ]
              clear hS2
              generalize hu3 : v2.alloc (.cells #[.int .i64 0, .int .i64 0, .int .i64 0, .int .i64 0, .int .i64 0, .int .i64 0, .int .u8 0, .int .u8 0, .int .u8 0, .int .u8 0, .int .u8 0, .int .u8 0, .slice none 0 0] 28) = v3 at *
              generalize v2.heap.size = q6 at *
              clear hu3
              refine wpAnyH_ready (rs := [16]) (by kernel_rfl) (by simp) ?_
              refine AllReadyH.cons rfl (fun K hK => ?_) AllReadyH.nil
              · try rw [if_pos (by rfl)]
                refine wp_store_vb' (T := 28) (vs := [.int .i64 z.k, .int .i64 z.pr, .int .i64 z.to, .int .i64 z.po, .int .i64 z.x.v, .int .i64 z.x.m, .int .u8 z.x.b0, .int .u8 z.x.b1, .int .u8 z.x.b2, .int .u8 z.x.i0, .int .u8 z.x.i1, .int .u8 z.x.i2, .slice A3 n3 c3]) none rfl (.tmp 4) (.tmp 16) rfl rfl rfl hz4 rfl agg_rule rfl ?_
                intro v4 hn hg hz
                have hS4 := Vb.grown hS3 hg (by omega)
                replace hz5 := hz5.grown hg (by omega)
                replace hz6 := hz6.grown hg (by omega)
                replace hz4 := hn
                replace hB : Below (w.heap.size + 1) u0 v4 := hB.grown hg hw0 (fun k e => by simp at e; omega)
                replace hw0 := Nat.le_trans hw0 hg.size
                refine hK.out _ _ hS4 (fun _ => ?_)
                clear hK K hn hg hz hS3
                try simp only [Act.put, List.setIfInBounds_toArray, List.set_cons_zero, List.set_cons_succ]
                refine wpAnyH_ready (rs := [17]) (by kernel_rfl) (by simp) ?_
                refine AllReadyH.cons rfl (fun K hK => ?_) AllReadyH.nil
                · try rw [if_pos (by rfl)]
                  refine wp_store_vb' (T := 28) (vs := [.int .i64 x.k, .int .i64 x.pr, .int .i64 x.to, .int .i64 x.po, .int .i64 x.x.v, .int .i64 x.x.m, .int .u8 x.x.b0, .int .u8 x.x.b1, .int .u8 x.x.b2, .int .u8 x.x.i0, .int .u8 x.x.i1, .int .u8 x.x.i2, .slice A1 n1 c1]) none rfl (.tmp 5) (.tmp 21) rfl rfl rfl hz5 rfl agg_rule rfl ?_
                  intro v5 hn hg hz
                  have hS5 := Vb.grown hS4 hg (by omega)
                  replace hz4 := hz4.grown hg (by omega)
                  replace hz6 := hz6.grown hg (by omega)
                  replace hz5 := hn
                  replace hB : Below (w.heap.size + 1) u0 v5 := hB.grown hg hw0 (fun k e => by simp at e; omega)
                  replace hw0 := Nat.le_trans hw0 hg.size
                  refine hK.out _ _ hS5 (fun _ => ?_)
                  clear hK K hn hg hz hS4
                  try simp only [Act.put, List.setIfInBounds_toArray, List.set_cons_zero, List.set_cons_succ]
                  refine wpAnyH_ready (rs := [18]) (by kernel_rfl) (by simp) ?_
                  refine AllReadyH.cons rfl (fun K hK => ?_) AllReadyH.nil
                  · try rw [if_pos (by rfl)]
                    refine wp_store_vb' (T := 28) (vs := [.int .i64 y.k, .int .i64 y.pr, .int .i64 y.to, .int .i64 y.po, .int .i64 y.x.v, .int .i64 y.x.m, .int .u8 y.x.b0, .int .u8 y.x.b1, .int .u8 y.x.b2, .int .u8 y.x.i0, .int .u8 y.x.i1, .int .u8 y.x.i2, .slice A2 n2 c2]) none rfl (.tmp 6) (.tmp 26) rfl rfl rfl hz6 rfl agg_rule rfl ?_
                    intro v6 hn hg hz
                    have hS6 := Vb.grown hS5 hg (by omega)
                    replace hz4 := hz4.grown hg (by omega)
                    replace hz5 := hz5.grown hg (by omega)
                    replace hz6 := hn
                    replace hB : Below (w.heap.size + 1) u0 v6 := hB.grown hg hw0 (fun k e => by simp at e; omega)
                    replace hw0 := Nat.le_trans hw0 hg.size
                    refine hK.out _ _ hS6 (fun _ => ?_)
                    clear hK K hn hg hz hS5
                    try simp only [Act.put, List.setIfInBounds_toArray, List.set_cons_zero, List.set_cons_succ]
                    refine wpAnyH_done (by kernel_rfl) ?_ _
                    have hS := hS6
                    go_wp2_with fail
                    go_meet
                    case rel => exact ⟨z, x, y, .slice A3 n3 c3, .slice A1 n1 c1, .slice A2 n2 c2, _, _, _, rfl, rfl, rfl, ⟨hz4, hz5, hz6⟩, hS, hB1.trans (hB.mono (by omega))⟩
          · try rw [if_pos (by rfl)]
            go_simp
            have hb := below_alloc v1 (.cells #[.int .i64 0, .int .i64 0, .int .i64 0, .int .i64 0, .int .i64 0, .int .i64 0, .int .u8 0, .int .u8 0, .int .u8 0, .int .u8 0, .int .u8 0, .int .u8 0, .slice none 0 0] 28)
            have hz6 := Vb.new 28 v1 [.int .i64 0, .int .i64 0, .int .i64 0, .int .i64 0, .int .i64 0, .int .i64 0, .int .u8 0, .int .u8 0, .int .u8 0, .int .u8 0, .int .u8 0, .int .u8 0, .slice none 0 0]
            have hS7 := Vb.alloc hS1 (.cells #[.int .i64 0, .int .i64 0, .int .i64 0, .int .i64 0, .int .i64 0, .int .i64 0, .int .u8 0, .int .u8 0, .int .u8 0, .int .u8 0, .int .u8 0, .int .u8 0, .slice none 0 0] 28)
            have hl6 := hw0
            have hlt4_6 := hz4.lt
            replace hz4 := hz4.alloc (.cells #[.int .i64 0, .int .i64 0, .int .i64 0, .int .i64 0, .int .i64 0, .int .i64 0, .int .u8 0, .int .u8 0, .int .u8 0, .int .u8 0, .int .u8 0, .int .u8 0, .slice none 0 0] 28)
            replace hB := hB.trans (hb.mono hw0)
            replace hw0 := Nat.le_trans hw0 hb.size
            refine hK.out _ _ hS7 (fun _ => ?_)
            clear hK K hb
            try simp only [Act.put, List.setIfInBounds_toArray, List.set_cons_zero, List.set_cons_succ]
            clear hS1
            generalize hu7 : v1.alloc (.cells #[.int .i64 0, .int .i64 0, .int .i64 0, .int .i64 0, .int .i64 0, .int .i64 0, .int .u8 0, .int .u8 0, .int .u8 0, .int .u8 0, .int .u8 0, .int .u8 0, .slice none 0 0] 28) = v7 at *
            generalize v1.heap.size = q6 at *
            clear hu7
            refine wpAnyH_ready (rs := [14]) (by kernel_rfl) (by simp) ?_
            refine AllReadyH.cons rfl (fun K hK => ?_) AllReadyH.nil
            · try rw [if_pos (by rfl)]
              go_simp
              have hb := below_alloc v7 (.cells #[.int .i64 0, .int .i64 0, .int .i64 0, .int .i64 0, .int .i64 0, .int .i64 0, .int .u8 0, .int .u8 0, .int .u8 0, .int .u8 0, .int .u8 0, .int .u8 0, .slice none 0 0] 28)
              have hz5 := Vb.new 28 v7 [.int .i64 0, .int .i64 0, .int .i64 0, .int .i64 0, .int .i64 0, .int .i64 0, .int .u8 0, .int .u8 0, .int .u8 0, .int .u8 0, .int .u8 0, .int .u8 0, .slice none 0 0]
              have hS8 := Vb.alloc hS7 (.cells #[.int .i64 0, .int .i64 0, .int .i64 0, .int .i64 0, .int .i64 0, .int .i64 0, .int .u8 0, .int .u8 0, .int .u8 0, .int .u8 0, .int .u8 0, .int .u8 0, .slice none 0 0] 28)
              have hl5 := hw0
              have hlt4_5 := hz4.lt
              have hlt6_5 := hz6.lt
              replace hz4 := hz4.alloc (.cells #[.int .i64 0, .int .i64 0, .int .i64 0, .int .i64 0, .int .i64 0, .int .i64 0, .int .u8 0, .int .u8 0, .int .u8 0, .int .u8 0, .int .u8 0, .int .u8 0, .slice none 0 0] 28)
              replace hz6 := hz6.alloc (.cells #[.int .i64 0, .int .i64 0, .int .i64 0, .int .i64 0, .int .i64 0, .int .i64 0, .int .u8 0, .int .u8 0, .int .u8 0, .int .u8 0, .int .u8 0, .int .u8 0, .slice none 0 0] 28)
              replace hB := hB.trans (hb.mono hw0)
              replace hw0 := Nat.le_trans hw0 hb.size
              refine hK.out _ _ hS8 (fun _ => ?_)
              clear hK K hb
              try simp only [Act.put, List.setIfInBounds_toArray, List.set_cons_zero, List.set_cons_succ]
              clear hS7
              generalize hu8 : v7.alloc (.cells #[.int .i64 0, .int .i64 0, .int .i64 0, .int .i64 0, .int .i64 0, .int .i64 0, .int .u8 0, .int .u8 0, .int .u8 0, .int .u8 0, .int .u8 0, .int .u8 0, .slice none 0 0] 28) = v8 at *
              generalize v7.heap.size = q5 at *
              clear hu8
              refine wpAnyH_ready (rs := [16]) (by kernel_rfl) (by simp) ?_
              refine AllReadyH.cons rfl (fun K hK => ?_) AllReadyH.nil
              · try rw [if_pos (by rfl)]
                refine wp_store_vb' (T := 28) (vs := [.int .i64 z.k, .int .i64 z.pr, .int .i64 z.to, .int .i64 z.po, .int .i64 z.x.v, .int .i64 z.x.m, .int .u8 z.x.b0, .int .u8 z.x.b1, .int .u8 z.x.b2, .int .u8 z.x.i0, .int .u8 z.x.i1, .int .u8 z.x.i2, .slice A3 n3 c3]) none rfl (.tmp 4) (.tmp 16) rfl rfl rfl hz4 rfl agg_rule rfl ?_
                intro v9 hn hg hz
                have hS9 := Vb.grown hS8 hg (by omega)
                replace hz6 := hz6.grown hg (by omega)
                replace hz5 := hz5.grown hg (by omega)
                replace hz4 := hn
                replace hB : Below (w.heap.size + 1) u0 v9 := hB.grown hg hw0 (fun k e => by simp at e; omega)
                replace hw0 := Nat.le_trans hw0 hg.size
                refine hK.out _ _ hS9 (fun _ => ?_)
                clear hK K hn hg hz hS8
                try simp only [Act.put, List.setIfInBounds_toArray, List.set_cons_zero, List.set_cons_succ]
                refine wpAnyH_ready (rs := [17]) (by kernel_rfl) (by simp) ?_
                refine AllReadyH.cons rfl (fun K hK => ?_) AllReadyH.nil
                · try rw [if_pos (by rfl)]
                  refine wp_store_vb' (T := 28) (vs := [.int .i64 x.k, .int .i64 x.pr, .int .i64 x.to, .int .i64 x.po, .int .i64 x.x.v, .int .i64 x.x.m, .int .u8 x.x.b0, .int .u8 x.x.b1, .int .u8 x.x.b2, .int .u8 x.x.i0, .int .u8 x.x.i1, .int .u8 x.x.i2, .slice A1 n1 c1]) none rfl (.tmp 5) (.tmp 21) rfl rfl rfl hz5 rfl agg_rule rfl ?_
                  intro v10 hn hg hz
                  have hS10 := Vb.grown hS9 hg (by omega)
                  replace hz4 := hz4.grown hg (by omega)
                  replace hz6 := hz6.grown hg (by omega)
                  replace hz5 := hn
                  replace hB : Below (w.heap.size + 1) u0 v10 := hB.grown hg hw0 (fun k e => by simp at e; omega)
                  replace hw0 := Nat.le_trans hw0 hg.size
                  refine hK.out _ _ hS10 (fun _ => ?_)
                  clear hK K hn hg hz hS9
                  try simp only [Act.put, List.setIfInBounds_toArray, List.set_cons_zero, List.set_cons_succ]
                  refine wpAnyH_ready (rs := [18]) (by kernel_rfl) (by simp) ?_
                  refine AllReadyH.cons rfl (fun K hK => ?_) AllReadyH.nil
                  · try rw [if_pos (by rfl)]
                    refine wp_store_vb' (T := 28) (vs := [.int .i64 y.k, .int .i64 y.pr, .int .i64 y.to, .int .i64 y.po, .int .i64 y.x.v, .int .i64 y.x.m, .int .u8 y.x.b0, .int .u8 y.x.b1, .int .u8 y.x.b2, .int .u8 y.x.i0, .int .u8 y.x.i1, .int .u8 y.x.i2, .slice A2 n2 c2]) none rfl (.tmp 6) (.tmp 26) rfl rfl rfl hz6 rfl agg_rule rfl ?_
                    intro v11 hn hg hz
                    have hS11 := Vb.grown hS10 hg (by omega)
                    replace hz4 := hz4.grown hg (by omega)
                    replace hz5 := hz5.grown hg (by omega)
                    replace hz6 := hn
                    replace hB : Below (w.heap.size + 1) u0 v11 := hB.grown hg hw0 (fun k e => by simp at e; omega)
                    replace hw0 := Nat.le_trans hw0 hg.size
                    refine hK.out _ _ hS11 (fun _ => ?_)
                    clear hK K hn hg hz hS10
                    try simp only [Act.put, List.setIfInBounds_toArray, List.set_cons_zero, List.set_cons_succ]
                    refine wpAnyH_done (by kernel_rfl) ?_ _
                    have hS := hS11
                    go_wp2_with fail
                    go_meet
                    case rel => exact ⟨z, x, y, .slice A3 n3 c3, .slice A1 n1 c1, .slice A2 n2 c2, _, _, _, rfl, rfl, rfl, ⟨hz4, hz5, hz6⟩, hS, hB1.trans (hB.mono (by omega))⟩
        · try rw [if_pos (by rfl)]
          go_simp
          have hb := below_alloc u0 (.cells #[.int .i64 0, .int .i64 0, .int .i64 0, .int .i64 0, .int .i64 0, .int .i64 0, .int .u8 0, .int .u8 0, .int .u8 0, .int .u8 0, .int .u8 0, .int .u8 0, .slice none 0 0] 28)
          have hz5 := Vb.new 28 u0 [.int .i64 0, .int .i64 0, .int .i64 0, .int .i64 0, .int .i64 0, .int .i64 0, .int .u8 0, .int .u8 0, .int .u8 0, .int .u8 0, .int .u8 0, .int .u8 0, .slice none 0 0]
          have hS12 := Vb.alloc hS0 (.cells #[.int .i64 0, .int .i64 0, .int .i64 0, .int .i64 0, .int .i64 0, .int .i64 0, .int .u8 0, .int .u8 0, .int .u8 0, .int .u8 0, .int .u8 0, .int .u8 0, .slice none 0 0] 28)
          have hl5 := hw0
          replace hB := hB.trans (hb.mono hw0)
          replace hw0 := Nat.le_trans hw0 hb.size
          refine hK.out _ _ hS12 (fun _ => ?_)
          clear hK K hb
          try simp only [Act.put, List.setIfInBounds_toArray, List.set_cons_zero, List.set_cons_succ]
          clear hS0
          generalize hu12 : u0.alloc (.cells #[.int .i64 0, .int .i64 0, .int .i64 0, .int .i64 0, .int .i64 0, .int .i64 0, .int .u8 0, .int .u8 0, .int .u8 0, .int .u8 0, .int .u8 0, .int .u8 0, .slice none 0 0] 28) = v12 at *
          generalize u0.heap.size = q5 at *
          clear hu12
          refine wpAnyH_ready (rs := [13, 15]) (by kernel_rfl) (by simp) ?_
          refine AllReadyH.cons rfl (fun K hK => ?_) (AllReadyH.cons rfl (fun K hK => ?_) AllReadyH.nil)
          · try rw [if_pos (by rfl)]
            go_simp
            have hb := below_alloc v12 (.cells #[.int .i64 0, .int .i64 0, .int .i64 0, .int .i64 0, .int .i64 0, .int .i64 0, .int .u8 0, .int .u8 0, .int .u8 0, .int .u8 0, .int .u8 0, .int .u8 0, .slice none 0 0] 28)
            have hz4 := Vb.new 28 v12 [.int .i64 0, .int .i64 0, .int .i64 0, .int .i64 0, .int .i64 0, .int .i64 0, .int .u8 0, .int .u8 0, .int .u8 0, .int .u8 0, .int .u8 0, .int .u8 0, .slice none 0 0]
            have hS13 := Vb.alloc hS12 (.cells #[.int .i64 0, .int .i64 0, .int .i64 0, .int .i64 0, .int .i64 0, .int .i64 0, .int .u8 0, .int .u8 0, .int .u8 0, .int .u8 0, .int .u8 0, .int .u8 0, .slice none 0 0] 28)
            have hl4 := hw0
            have hlt5_4 := hz5.lt
            replace hz5 := hz5.alloc (.cells #[.int .i64 0, .int .i64 0, .int .i64 0, .int .i64 0, .int .i64 0, .int .i64 0, .int .u8 0, .int .u8 0, .int .u8 0, .int .u8 0, .int .u8 0, .int .u8 0, .slice none 0 0] 28)
            replace hB := hB.trans (hb.mono hw0)
            replace hw0 := Nat.le_trans hw0 hb.size
            refine hK.out _ _ hS13 (fun _ => ?_)
            clear hK K hb
            try simp only [Act.put, List.setIfInBounds_toArray, List.set_cons_zero, List.set_cons_succ]
            clear hS12
            generalize hu13 : v12.alloc (.cells #[.int .i64 0, .int .i64 0, .int .i64 0, .int .i64 0, .int .i64 0, .int .i64 0, .int .u8 0, .int .u8 0, .int .u8 0, .int .u8 0, .int .u8 0, .int .u8 0, .slice none 0 0] 28) = v13 at *
            generalize v12.heap.size = q4 at *
            clear hu13
            refine wpAnyH_ready (rs := [15]) (by kernel_rfl) (by simp) ?_
            refine AllReadyH.cons rfl (fun K hK => ?_) AllReadyH.nil
            · try rw [if_pos (by rfl)]
              go_simp
              have hb := below_alloc v13 (.cells #[.int .i64 0, .int .i64 0, .int .i64 0, .int .i64 0, .int .i64 0, .int .i64 0, .int .u8 0, .int .u8 0, .int .u8 0, .int .u8 0, .int .u8 0, .int .u8 0, .slice none 0 0] 28)
              have hz6 := Vb.new 28 v13 [.int .i64 0, .int .i64 0, .int .i64 0, .int .i64 0, .int .i64 0, .int .i64 0, .int .u8 0, .int .u8 0, .int .u8 0, .int .u8 0, .int .u8 0, .int .u8 0, .slice none 0 0]
              have hS14 := Vb.alloc hS13 (.cells #[.int .i64 0, .int .i64 0, .int .i64 0, .int .i64 0, .int .i64 0, .int .i64 0, .int .u8 0, .int .u8 0, .int .u8 0, .int .u8 0, .int .u8 0, .int .u8 0, .slice none 0 0] 28)
              have hl6 := hw0
              have hlt5_6 := hz5.lt
              have hlt4_6 := hz4.lt
              replace hz5 := hz5.alloc (.cells #[.int .i64 0, .int .i64 0, .int .i64 0, .int .i64 0, .int .i64 0, .int .i64 0, .int .u8 0, .int .u8 0, .int .u8 0, .int .u8 0, .int .u8 0, .int .u8 0, .slice none 0 0] 28)
              replace hz4 := hz4.alloc (.cells #[.int .i64 0, .int .i64 0, .int .i64 0, .int .i64 0, .int .i64 0, .int .i64 0, .int .u8 0, .int .u8 0, .int .u8 0, .int .u8 0, .int .u8 0, .int .u8 0, .slice none 0 0] 28)
              replace hB := hB.trans (hb.mono hw0)
              replace hw0 := Nat.le_trans hw0 hb.size
              refine hK.out _ _ hS14 (fun _ => ?_)
              clear hK K hb
              try simp only [Act.put, List.setIfInBounds_toArray, List.set_cons_zero, List.set_cons_succ]
              clear hS13
              generalize hu14 : v13.alloc (.cells #[.int .i64 0, .int .i64 0, .int .i64 0, .int .i64 0, .int .i64 0, .int .i64 0, .int .u8 0, .int .u8 0, .int .u8 0, .int .u8 0, .int .u8 0, .int .u8 0, .slice none 0 0] 28) = v14 at *
              generalize v13.heap.size = q6 at *
              clear hu14
              refine wpAnyH_ready (rs := [16]) (by kernel_rfl) (by simp) ?_
              refine AllReadyH.cons rfl (fun K hK => ?_) AllReadyH.nil
              · try rw [if_pos (by rfl)]
                refine wp_store_vb' (T := 28) (vs := [.int .i64 z.k, .int .i64 z.pr, .int .i64 z.to, .int .i64 z.po, .int .i64 z.x.v, .int .i64 z.x.m, .int .u8 z.x.b0, .int .u8 z.x.b1, .int .u8 z.x.b2, .int .u8 z.x.i0, .int .u8 z.x.i1, .int .u8 z.x.i2, .slice A3 n3 c3]) none rfl (.tmp 4) (.tmp 16) rfl rfl rfl hz4 rfl agg_rule rfl ?_
                intro v15 hn hg hz
                have hS15 := Vb.grown hS14 hg (by omega)
                replace hz5 := hz5.grown hg (by omega)
                replace hz6 := hz6.grown hg (by omega)
                replace hz4 := hn
                replace hB : Below (w.heap.size + 1) u0 v15 := hB.grown hg hw0 (fun k e => by simp at e; omega)
                replace hw0 := Nat.le_trans hw0 hg.size
                refine hK.out _ _ hS15 (fun _ => ?_)
                clear hK K hn hg hz hS14
                try simp only [Act.put, List.setIfInBounds_toArray, List.set_cons_zero, List.set_cons_succ]
                refine wpAnyH_ready (rs := [17]) (by kernel_rfl) (by simp) ?_
                refine AllReadyH.cons rfl (fun K hK => ?_) AllReadyH.nil
                · try rw [if_pos (by rfl)]
                  refine wp_store_vb' (T := 28) (vs := [.int .i64 x.k, .int .i64 x.pr, .int .i64 x.to, .int .i64 x.po, .int .i64 x.x.v, .int .i64 x.x.m, .int .u8 x.x.b0, .int .u8 x.x.b1, .int .u8 x.x.b2, .int .u8 x.x.i0, .int .u8 x.x.i1, .int .u8 x.x.i2, .slice A1 n1 c1]) none rfl (.tmp 5) (.tmp 21) rfl rfl rfl hz5 rfl agg_rule rfl ?_
                  intro v16 hn hg hz
                  have hS16 := Vb.grown hS15 hg (by omega)
                  replace hz4 := hz4.grown hg (by omega)
                  replace hz6 := hz6.grown hg (by omega)
                  replace hz5 := hn
                  replace hB : Below (w.heap.size + 1) u0 v16 := hB.grown hg hw0 (fun k e => by simp at e; omega)
                  replace hw0 := Nat.le_trans hw0 hg.size
                  refine hK.out _ _ hS16 (fun _ => ?_)
                  clear hK K hn hg hz hS15
                  try simp only [Act.put, List.setIfInBounds_toArray, List.set_cons_zero, List.set_cons_succ]
                  refine wpAnyH_ready (rs := [18]) (by kernel_rfl) (by simp) ?_
                  refine AllReadyH.cons rfl (fun K hK => ?_) AllReadyH.nil
                  · try rw [if_pos (by rfl)]
                    refine wp_store_vb' (T := 28) (vs := [.int .i64 y.k, .int .i64 y.pr, .int .i64 y.to, .int .i64 y.po, .int .i64 y.x.v, .int .i64 y.x.m, .int .u8 y.x.b0, .int .u8 y.x.b1, .int .u8 y.x.b2, .int .u8 y.x.i0, .int .u8 y.x.i1, .int .u8 y.x.i2, .slice A2 n2 c2]) none rfl (.tmp 6) (.tmp 26) rfl rfl rfl hz6 rfl agg_rule rfl ?_
                    intro v17 hn hg hz
                    have hS17 := Vb.grown hS16 hg (by omega)
                    replace hz5 := hz5.grown hg (by omega)
                    replace hz4 := hz4.grown hg (by omega)
                    replace hz6 := hn
                    replace hB : Below (w.heap.size + 1) u0 v17 := hB.grown hg hw0 (fun k e => by simp at e; omega)
                    replace hw0 := Nat.le_trans hw0 hg.size
                    refine hK.out _ _ hS17 (fun _ => ?_)
                    clear hK K hn hg hz hS16
                    try simp only [Act.put, List.setIfInBounds_toArray, List.set_cons_zero, List.set_cons_succ]
                    refine wpAnyH_done (by kernel_rfl) ?_ _
                    have hS := hS17
                    go_wp2_with fail
                    go_meet
                    case rel => exact ⟨z, x, y, .slice A3 n3 c3, .slice A1 n1 c1, .slice A2 n2 c2, _, _, _, rfl, rfl, rfl, ⟨hz4, hz5, hz6⟩, hS, hB1.trans (hB.mono (by omega))⟩
          · try rw [if_pos (by rfl)]
            go_simp
            have hb := below_alloc v12 (.cells #[.int .i64 0, .int .i64 0, .int .i64 0, .int .i64 0, .int .i64 0, .int .i64 0, .int .u8 0, .int .u8 0, .int .u8 0, .int .u8 0, .int .u8 0, .int .u8 0, .slice none 0 0] 28)
            have hz6 := Vb.new 28 v12 [.int .i64 0, .int .i64 0, .int .i64 0, .int .i64 0, .int .i64 0, .int .i64 0, .int .u8 0, .int .u8 0, .int .u8 0, .int .u8 0, .int .u8 0, .int .u8 0, .slice none 0 0]
            have hS18 := Vb.alloc hS12 (.cells #[.int .i64 0, .int .i64 0, .int .i64 0, .int .i64 0, .int .i64 0, .int .i64 0, .int .u8 0, .int .u8 0, .int .u8 0, .int .u8 0, .int .u8 0, .int .u8 0, .slice none 0 0] 28)
            have hl6 := hw0
            have hlt5_6 := hz5.lt
            replace hz5 := hz5.alloc (.cells #[.int .i64 0, .int .i64 0, .int .i64 0, .int .i64 0, .int .i64 0, .int .i64 0, .int .u8 0, .int .u8 0, .int .u8 0, .int .u8 0, .int .u8 0, .int .u8 0, .slice none 0 0] 28)
            replace hB := hB.trans (hb.mono hw0)
            replace hw0 := Nat.le_trans hw0 hb.size
            refine hK.out _ _ hS18 (fun _ => ?_)
            clear hK K hb
            try simp only [Act.put, List.setIfInBounds_toArray, List.set_cons_zero, List.set_cons_succ]
            clear hS12
            generalize hu18 : v12.alloc (.cells #[.int .i64 0, .int .i64 0, .int .i64 0, .int .i64 0, .int .i64 0, .int .i64 0, .int .u8 0, .int .u8 0, .int .u8 0, .int .u8 0, .int .u8 0, .int .u8 0, .slice none 0 0] 28) = v18 at *
            generalize v12.heap.size = q6 at *
            clear hu18
            refine wpAnyH_ready (rs := [13]) (by kernel_rfl) (by simp) ?_
            refine AllReadyH.cons rfl (fun K hK => ?_) AllReadyH.nil
            · try rw [if_pos (by rfl)]
              go_simp
              have hb := below_alloc v18 (.cells #[.int .i64 0, .int .i64 0, .int .i64 0, .int .i64 0, .int .i64 0, .int .i64 0, .int .u8 0, .int .u8 0, .int .u8 0, .int .u8 0, .int .u8 0, .int .u8 0, .slice none 0 0] 28)
              have hz4 := Vb.new 28 v18 [.int .i64 0, .int .i64 0, .int .i64 0, .int .i64 0, .int .i64 0, .int .i64 0, .int .u8 0, .int .u8 0, .int .u8 0, .int .u8 0, .int .u8 0, .int .u8 0, .slice none 0 0]
              have hS19 := Vb.alloc hS18 (.cells #[.int .i64 0, .int .i64 0, .int .i64 0, .int .i64 0, .int .i64 0, .int .i64 0, .int .u8 0, .int .u8 0, .int .u8 0, .int .u8 0, .int .u8 0, .int .u8 0, .slice none 0 0] 28)
              have hl4 := hw0
              have hlt5_4 := hz5.lt
              have hlt6_4 := hz6.lt
              replace hz5 := hz5.alloc (.cells #[.int .i64 0, .int .i64 0, .int .i64 0, .int .i64 0, .int .i64 0, .int .i64 0, .int .u8 0, .int .u8 0, .int .u8 0, .int .u8 0, .int .u8 0, .int .u8 0, .slice none 0 0] 28)
              replace hz6 := hz6.alloc (.cells #[.int .i64 0, .int .i64 0, .int .i64 0, .int .i64 0, .int .i64 0, .int .i64 0, .int .u8 0, .int .u8 0, .int .u8 0, .int .u8 0, .int .u8 0, .int .u8 0, .slice none 0 0] 28)
              replace hB := hB.trans (hb.mono hw0)
              replace hw0 := Nat.le_trans hw0 hb.size
              refine hK.out _ _ hS19 (fun _ => ?_)
              clear hK K hb
              try simp only [Act.put, List.setIfInBounds_toArray, List.set_cons_zero, List.set_cons_succ]
              clear hS18
              generalize hu19 : v18.alloc (.cells #[.int .i64 0, .int .i64 0, .int .i64 0, .int .i64 0, .int .i64 0, .int .i64 0, .int .u8 0, .int .u8 0, .int .u8 0, .int .u8 0, .int .u8 0, .int .u8 0, .slice none 0 0] 28) = v19 at *
              generalize v18.heap.size = q4 at *
              clear hu19
              refine wpAnyH_ready (rs := [16]) (by kernel_rfl) (by simp) ?_
              refine AllReadyH.cons rfl (fun K hK => ?_) AllReadyH.nil
              · try rw [if_pos (by rfl)]
                refine wp_store_vb' (T := 28) (vs := [.int .i64 z.k, .int .i64 z.pr, .int .i64 z.to, .int .i64 z.po, .int .i64 z.x.v, .int .i64 z.x.m, .int .u8 z.x.b0, .int .u8 z.x.b1, .int .u8 z.x.b2, .int .u8 z.x.i0, .int .u8 z.x.i1, .int .u8 z.x.i2, .slice A3 n3 c3]) none rfl (.tmp 4) (.tmp 16) rfl rfl rfl hz4 rfl agg_rule rfl ?_
                intro v20 hn hg hz
                have hS20 := Vb.grown hS19 hg (by omega)
                replace hz5 := hz5.grown hg (by omega)
                replace hz6 := hz6.grown hg (by omega)
                replace hz4 := hn
                replace hB : Below (w.heap.size + 1) u0 v20 := hB.grown hg hw0 (fun k e => by simp at e; omega)
                replace hw0 := Nat.le_trans hw0 hg.size
                refine hK.out _ _ hS20 (fun _ => ?_)
                clear hK K hn hg hz hS19
                try simp only [Act.put, List.setIfInBounds_toArray, List.set_cons_zero, List.set_cons_succ]
                refine wpAnyH_ready (rs := [17]) (by kernel_rfl) (by simp) ?_
                refine AllReadyH.cons rfl (fun K hK => ?_) AllReadyH.nil
                · try rw [if_pos (by rfl)]
                  refine wp_store_vb' (T := 28) (vs := [.int .i64 x.k, .int .i64 x.pr, .int .i64 x.to, .int .i64 x.po, .int .i64 x.x.v, .int .i64 x.x.m, .int .u8 x.x.b0, .int .u8 x.x.b1, .int .u8 x.x.b2, .int .u8 x.x.i0, .int .u8 x.x.i1, .int .u8 x.x.i2, .slice A1 n1 c1]) none rfl (.tmp 5) (.tmp 21) rfl rfl rfl hz5 rfl agg_rule rfl ?_
                  intro v21 hn hg hz
                  have hS21 := Vb.grown hS20 hg (by omega)
                  replace hz6 := hz6.grown hg (by omega)
                  replace hz4 := hz4.grown hg (by omega)
                  replace hz5 := hn
                  replace hB : Below (w.heap.size + 1) u0 v21 := hB.grown hg hw0 (fun k e => by simp at e; omega)
                  replace hw0 := Nat.le_trans hw0 hg.size
                  refine hK.out _ _ hS21 (fun _ => ?_)
                  clear hK K hn hg hz hS20
                  try simp only [Act.put, List.setIfInBounds_toArray, List.set_cons_zero, List.set_cons_succ]
                  refine wpAnyH_ready (rs := [18]) (by kernel_rfl) (by simp) ?_
                  refine AllReadyH.cons rfl (fun K hK => ?_) AllReadyH.nil
                  · try rw [if_pos (by rfl)]
                    refine wp_store_vb' (T := 28) (vs := [.int .i64 y.k, .int .i64 y.pr, .int .i64 y.to, .int .i64 y.po, .int .i64 y.x.v, .int .i64 y.x.m, .int .u8 y.x.b0, .int .u8 y.x.b1, .int .u8 y.x.b2, .int .u8 y.x.i0, .int .u8 y.x.i1, .int .u8 y.x.i2, .slice A2 n2 c2]) none rfl (.tmp 6) (.tmp 26) rfl rfl rfl hz6 rfl agg_rule rfl ?_
                    intro v22 hn hg hz
                    have hS22 := Vb.grown hS21 hg (by omega)
                    replace hz5 := hz5.grown hg (by omega)
                    replace hz4 := hz4.grown hg (by omega)
                    replace hz6 := hn
                    replace hB : Below (w.heap.size + 1) u0 v22 := hB.grown hg hw0 (fun k e => by simp at e; omega)
                    replace hw0 := Nat.le_trans hw0 hg.size
                    refine hK.out _ _ hS22 (fun _ => ?_)
                    clear hK K hn hg hz hS21
                    try simp only [Act.put, List.setIfInBounds_toArray, List.set_cons_zero, List.set_cons_succ]
                    refine wpAnyH_done (by kernel_rfl) ?_ _
                    have hS := hS22
                    go_wp2_with fail
                    go_meet
                    case rel => exact ⟨z, x, y, .slice A3 n3 c3, .slice A1 n1 c1, .slice A2 n2 c2, _, _, _, rfl, rfl, rfl, ⟨hz4, hz5, hz6⟩, hS, hB1.trans (hB.mono (by omega))⟩
        · try rw [if_pos (by rfl)]
          go_simp
          have hb := below_alloc u0 (.cells #[.int .i64 0, .int .i64 0, .int .i64 0, .int .i64 0, .int .i64 0, .int .i64 0, .int .u8 0, .int .u8 0, .int .u8 0, .int .u8 0, .int .u8 0, .int .u8 0, .slice none 0 0] 28)
          have hz6 := Vb.new 28 u0 [.int .i64 0, .int .i64 0, .int .i64 0, .int .i64 0, .int .i64 0, .int .i64 0, .int .u8 0, .int .u8 0, .int .u8 0, .int .u8 0, .int .u8 0, .int .u8 0, .slice none 0 0]
          have hS23 := Vb.alloc hS0 (.cells #[.int .i64 0, .int .i64 0, .int .i64 0, .int .i64 0, .int .i64 0, .int .i64 0, .int .u8 0, .int .u8 0, .int .u8 0, .int .u8 0, .int .u8 0, .int .u8 0, .slice none 0 0] 28)
          have hl6 := hw0
          replace hB := hB.trans (hb.mono hw0)
          replace hw0 := Nat.le_trans hw0 hb.size
          refine hK.out _ _ hS23 (fun _ => ?_)
          clear hK K hb
          try simp only [Act.put, List.setIfInBounds_toArray, List.set_cons_zero, List.set_cons_succ]
          clear hS0
          generalize hu23 : u0.alloc (.cells #[.int .i64 0, .int .i64 0, .int .i64 0, .int .i64 0, .int .i64 0, .int .i64 0, .int .u8 0, .int .u8 0, .int .u8 0, .int .u8 0, .int .u8 0, .int .u8 0, .slice none 0 0] 28) = v23 at *
          generalize u0.heap.size = q6 at *
          clear hu23
          refine wpAnyH_ready (rs := [13, 14]) (by kernel_rfl) (by simp) ?_
          refine AllReadyH.cons rfl (fun K hK => ?_) (AllReadyH.cons rfl (fun K hK => ?_) AllReadyH.nil)
          · try rw [if_pos (by rfl)]
            go_simp
            have hb := below_alloc v23 (.cells #[.int .i64 0, .int .i64 0, .int .i64 0, .int .i64 0, .int .i64 0, .int .i64 0, .int .u8 0, .int .u8 0, .int .u8 0, .int .u8 0, .int .u8 0, .int .u8 0, .slice none 0 0] 28)
            have hz4 := Vb.new 28 v23 [.int .i64 0, .int .i64 0, .int .i64 0, .int .i64 0, .int .i64 0, .int .i64 0, .int .u8 0, .int .u8 0, .int .u8 0, .int .u8 0, .int .u8 0, .int .u8 0, .slice none 0 0]
            have hS24 := Vb.alloc hS23 (.cells #[.int .i64 0, .int .i64 0, .int .i64 0, .int .i64 0, .int .i64 0, .int .i64 0, .int .u8 0, .int .u8 0, .int .u8 0, .int .u8 0, .int .u8 0, .int .u8 0, .slice none 0 0] 28)
            have hl4 := hw0
            have hlt6_4 := hz6.lt
            replace hz6 := hz6.alloc (.cells #[.int .i64 0, .int .i64 0, .int .i64 0, .int .i64 0, .int .i64 0, .int .i64 0, .int .u8 0, .int .u8 0, .int .u8 0, .int .u8 0, .int .u8 0, .int .u8 0, .slice none 0 0] 28)
            replace hB := hB.trans (hb.mono hw0)
            replace hw0 := Nat.le_trans hw0 hb.size
            refine hK.out _ _ hS24 (fun _ => ?_)
            clear hK K hb
            try simp only [Act.put, List.setIfInBounds_toArray, List.set_cons_zero, List.set_cons_succ]
            clear hS23
            generalize hu24 : v23.alloc (.cells #[.int .i64 0, .int .i64 0, .int .i64 0, .int .i64 0, .int .i64 0, .int .i64 0, .int .u8 0, .int .u8 0, .int .u8 0, .int .u8 0, .int .u8 0, .int .u8 0, .slice none 0 0] 28) = v24 at *
            generalize v23.heap.size = q4 at *
            clear hu24
            refine wpAnyH_ready (rs := [14]) (by kernel_rfl) (by simp) ?_
            refine AllReadyH.cons rfl (fun K hK => ?_) AllReadyH.nil
            · try rw [if_pos (by rfl)]
              go_simp
              have hb := below_alloc v24 (.cells #[.int .i64 0, .int .i64 0, .int .i64 0, .int .i64 0, .int .i64 0, .int .i64 0, .int .u8 0, .int .u8 0, .int .u8 0, .int .u8 0, .int .u8 0, .int .u8 0, .slice none 0 0] 28)
              have hz5 := Vb.new 28 v24 [.int .i64 0, .int .i64 0, .int .i64 0, .int .i64 0, .int .i64 0, .int .i64 0, .int .u8 0, .int .u8 0, .int .u8 0, .int .u8 0, .int .u8 0, .int .u8 0, .slice none 0 0]
              have hS25 := Vb.alloc hS24 (.cells #[.int .i64 0, .int .i64 0, .int .i64 0, .int .i64 0, .int .i64 0, .int .i64 0, .int .u8 0, .int .u8 0, .int .u8 0, .int .u8 0, .int .u8 0, .int .u8 0, .slice none 0 0] 28)
              have hl5 := hw0
              have hlt6_5 := hz6.lt
              have hlt4_5 := hz4.lt
              replace hz6 := hz6.alloc (.cells #[.int .i64 0, .int .i64 0, .int .i64 0, .int .i64 0, .int .i64 0, .int .i64 0, .int .u8 0, .int .u8 0, .int .u8 0, .int .u8 0, .int .u8 0, .int .u8 0, .slice none 0 0] 28)
              replace hz4 := hz4.alloc (.cells #[.int .i64 0, .int .i64 0, .int .i64 0, .int .i64 0, .int .i64 0, .int .i64 0, .int .u8 0, .int .u8 0, .int .u8 0, .int .u8 0, .int .u8 0, .int .u8 0, .slice none 0 0] 28)
              replace hB := hB.trans (hb.mono hw0)
              replace hw0 := Nat.le_trans hw0 hb.size
              refine hK.out _ _ hS25 (fun _ => ?_)
              clear hK K hb
              try simp only [Act.put, List.setIfInBounds_toArray, List.set_cons_zero, List.set_cons_succ]
              clear hS24
              generalize hu25 : v24.alloc (.cells #[.int .i64 0, .int .i64 0, .int .i64 0, .int .i64 0, .int .i64 0, .int .i64 0, .int .u8 0, .int .u8 0, .int .u8 0, .int .u8 0, .int .u8 0, .int .u8 0, .slice none 0 0] 28) = v25 at *
              generalize v24.heap.size = q5 at *
              clear hu25
              refine wpAnyH_ready (rs := [16]) (by kernel_rfl) (by simp) ?_
              refine AllReadyH.cons rfl (fun K hK => ?_) AllReadyH.nil
              · try rw [if_pos (by rfl)]
                refine wp_store_vb' (T := 28) (vs := [.int .i64 z.k, .int .i64 z.pr, .int .i64 z.to, .int .i64 z.po, .int .i64 z.x.v, .int .i64 z.x.m, .int .u8 z.x.b0, .int .u8 z.x.b1, .int .u8 z.x.b2, .int .u8 z.x.i0, .int .u8 z.x.i1, .int .u8 z.x.i2, .slice A3 n3 c3]) none rfl (.tmp 4) (.tmp 16) rfl rfl rfl hz4 rfl agg_rule rfl ?_
                intro v26 hn hg hz
                have hS26 := Vb.grown hS25 hg (by omega)
                replace hz6 := hz6.grown hg (by omega)
                replace hz5 := hz5.grown hg (by omega)
                replace hz4 := hn
                replace hB : Below (w.heap.size + 1) u0 v26 := hB.grown hg hw0 (fun k e => by simp at e; omega)
                replace hw0 := Nat.le_trans hw0 hg.size
                refine hK.out _ _ hS26 (fun _ => ?_)
                clear hK K hn hg hz hS25
                try simp only [Act.put, List.setIfInBounds_toArray, List.set_cons_zero, List.set_cons_succ]
                refine wpAnyH_ready (rs := [17]) (by kernel_rfl) (by simp) ?_
                refine AllReadyH.cons rfl (fun K hK => ?_) AllReadyH.nil
                · try rw [if_pos (by rfl)]
                  refine wp_store_vb' (T := 28) (vs := [.int .i64 x.k, .int .i64 x.pr, .int .i64 x.to, .int .i64 x.po, .int .i64 x.x.v, .int .i64 x.x.m, .int .u8 x.x.b0, .int .u8 x.x.b1, .int .u8 x.x.b2, .int .u8 x.x.i0, .int .u8 x.x.i1, .int .u8 x.x.i2, .slice A1 n1 c1]) none rfl (.tmp 5) (.tmp 21) rfl rfl rfl hz5 rfl agg_rule rfl ?_
                  intro v27 hn hg hz
                  have hS27 := Vb.grown hS26 hg (by omega)
                  replace hz6 := hz6.grown hg (by omega)
                  replace hz4 := hz4.grown hg (by omega)
                  replace hz5 := hn
                  replace hB : Below (w.heap.size + 1) u0 v27 := hB.grown hg hw0 (fun k e => by simp at e; omega)
                  replace hw0 := Nat.le_trans hw0 hg.size
                  refine hK.out _ _ hS27 (fun _ => ?_)
                  clear hK K hn hg hz hS26
                  try simp only [Act.put, List.setIfInBounds_toArray, List.set_cons_zero, List.set_cons_succ]
                  refine wpAnyH_ready (rs := [18]) (by kernel_rfl) (by simp) ?_
                  refine AllReadyH.cons rfl (fun K hK => ?_) AllReadyH.nil
                  · try rw [if_pos (by rfl)]
                    refine wp_store_vb' (T := 28) (vs := [.int .i64 y.k, .int .i64 y.pr, .int .i64 y.to, .int .i64 y.po, .int .i64 y.x.v, .int .i64 y.x.m, .int .u8 y.x.b0, .int .u8 y.x.b1, .int .u8 y.x.b2, .int .u8 y.x.i0, .int .u8 y.x.i1, .int .u8 y.x.i2, .slice A2 n2 c2]) none rfl (.tmp 6) (.tmp 26) rfl rfl rfl hz6 rfl agg_rule rfl ?_
                    intro v28 hn hg hz
                    have hS28 := Vb.grown hS27 hg (by omega)
                    replace hz4 := hz4.grown hg (by omega)
                    replace hz5 := hz5.grown hg (by omega)
                    replace hz6 := hn
                    replace hB : Below (w.heap.size + 1) u0 v28 := hB.grown hg hw0 (fun k e => by simp at e; omega)
                    replace hw0 := Nat.le_trans hw0 hg.size
                    refine hK.out _ _ hS28 (fun _ => ?_)
                    clear hK K hn hg hz hS27
                    try simp only [Act.put, List.setIfInBounds_toArray, List.set_cons_zero, List.set_cons_succ]
                    refine wpAnyH_done (by kernel_rfl) ?_ _
                    have hS := hS28
                    go_wp2_with fail
                    go_meet
                    case rel => exact ⟨z, x, y, .slice A3 n3 c3, .slice A1 n1 c1, .slice A2 n2 c2, _, _, _, rfl, rfl, rfl, ⟨hz4, hz5, hz6⟩, hS, hB1.trans (hB.mono (by omega))⟩
          · try rw [if_pos (by rfl)]
            go_simp
            have hb := below_alloc v23 (.cells #[.int .i64 0, .int .i64 0, .int .i64 0, .int .i64 0, .int .i64 0, .int .i64 0, .int .u8 0, .int .u8 0, .int .u8 0, .int .u8 0, .int .u8 0, .int .u8 0, .slice none 0 0] 28)
            have hz5 := Vb.new 28 v23 [.int .i64 0, .int .i64 0, .int .i64 0, .int .i64 0, .int .i64 0, .int .i64 0, .int .u8 0, .int .u8 0, .int .u8 0, .int .u8 0, .int .u8 0, .int .u8 0, .slice none 0 0]
            have hS29 := Vb.alloc hS23 (.cells #[.int .i64 0, .int .i64 0, .int .i64 0, .int .i64 0, .int .i64 0, .int .i64 0, .int .u8 0, .int .u8 0, .int .u8 0, .int .u8 0, .int .u8 0, .int .u8 0, .slice none 0 0] 28)
            have hl5 := hw0
            have hlt6_5 := hz6.lt
            replace hz6 := hz6.alloc (.cells #[.int .i64 0, .int .i64 0, .int .i64 0, .int .i64 0, .int .i64 0, .int .i64 0, .int .u8 0, .int .u8 0, .int .u8 0, .int .u8 0, .int .u8 0, .int .u8 0, .slice none 0 0] 28)
            replace hB := hB.trans (hb.mono hw0)
            replace hw0 := Nat.le_trans hw0 hb.size
            refine hK.out _ _ hS29 (fun _ => ?_)
            clear hK K hb
            try simp only [Act.put, List.setIfInBounds_toArray, List.set_cons_zero, List.set_cons_succ]
            clear hS23
            generalize hu29 : v23.alloc (.cells #[.int .i64 0, .int .i64 0, .int .i64 0, .int .i64 0, .int .i64 0, .int .i64 0, .int .u8 0, .int .u8 0, .int .u8 0, .int .u8 0, .int .u8 0, .int .u8 0, .slice none 0 0] 28) = v29 at *
            generalize v23.heap.size = q5 at *
            clear hu29
            refine wpAnyH_ready (rs := [13]) (by kernel_rfl) (by simp) ?_
            refine AllReadyH.cons rfl (fun K hK => ?_) AllReadyH.nil
            · try rw [if_pos (by rfl)]
              go_simp
              have hb := below_alloc v29 (.cells #[.int .i64 0, .int .i64 0, .int .i64 0, .int .i64 0, .int .i64 0, .int .i64 0, .int .u8 0, .int .u8 0, .int .u8 0, .int .u8 0, .int .u8 0, .int .u8 0, .slice none 0 0] 28)
              have hz4 := Vb.new 28 v29 [.int .i64 0, .int .i64 0, .int .i64 0, .int .i64 0, .int .i64 0, .int .i64 0, .int .u8 0, .int .u8 0, .int .u8 0, .int .u8 0, .int .u8 0, .int .u8 0, .slice none 0 0]
              have hS30 := Vb.alloc hS29 (.cells #[.int .i64 0, .int .i64 0, .int .i64 0, .int .i64 0, .int .i64 0, .int .i64 0, .int .u8 0, .int .u8 0, .int .u8 0, .int .u8 0, .int .u8 0, .int .u8 0, .slice none 0 0] 28)
              have hl4 := hw0
              have hlt6_4 := hz6.lt
              have hlt5_4 := hz5.lt
              replace hz6 := hz6.alloc (.cells #[.int .i64 0, .int .i64 0, .int .i64 0, .int .i64 0, .int .i64 0, .int .i64 0, .int .u8 0, .int .u8 0, .int .u8 0, .int .u8 0, .int .u8 0, .int .u8 0, .slice none 0 0] 28)
              replace hz5 := hz5.alloc (.cells #[.int .i64 0, .int .i64 0, .int .i64 0, .int .i64 0, .int .i64 0, .int .i64 0, .int .u8 0, .int .u8 0, .int .u8 0, .int .u8 0, .int .u8 0, .int .u8 0, .slice none 0 0] 28)
              replace hB := hB.trans (hb.mono hw0)
              replace hw0 := Nat.le_trans hw0 hb.size
              refine hK.out _ _ hS30 (fun _ => ?_)
              clear hK K hb
              try simp only [Act.put, List.setIfInBounds_toArray, List.set_cons_zero, List.set_cons_succ]
              clear hS29
              generalize hu30 : v29.alloc (.cells #[.int .i64 0, .int .i64 0, .int .i64 0, .int .i64 0, .int .i64 0, .int .i64 0, .int .u8 0, .int .u8 0, .int .u8 0, .int .u8 0, .int .u8 0, .int .u8 0, .slice none 0 0] 28) = v30 at *
              generalize v29.heap.size = q4 at *
              clear hu30
              refine wpAnyH_ready (rs := [16]) (by kernel_rfl) (by simp) ?_
              refine AllReadyH.cons rfl (fun K hK => ?_) AllReadyH.nil
              · try rw [if_pos (by rfl)]
                refine wp_store_vb' (T := 28) (vs := [.int .i64 z.k, .int .i64 z.pr, .int .i64 z.to, .int .i64 z.po, .int .i64 z.x.v, .int .i64 z.x.m, .int .u8 z.x.b0, .int .u8 z.x.b1, .int .u8 z.x.b2, .int .u8 z.x.i0, .int .u8 z.x.i1, .int .u8 z.x.i2, .slice A3 n3 c3]) none rfl (.tmp 4) (.tmp 16) rfl rfl rfl hz4 rfl agg_rule rfl ?_
                intro v31 hn hg hz
                have hS31 := Vb.grown hS30 hg (by omega)
                replace hz6 := hz6.grown hg (by omega)
                replace hz5 := hz5.grown hg (by omega)
                replace hz4 := hn
                replace hB : Below (w.heap.size + 1) u0 v31 := hB.grown hg hw0 (fun k e => by simp at e; omega)
                replace hw0 := Nat.le_trans hw0 hg.size
                refine hK.out _ _ hS31 (fun _ => ?_)
                clear hK K hn hg hz hS30
                try simp only [Act.put, List.setIfInBounds_toArray, List.set_cons_zero, List.set_cons_succ]
                refine wpAnyH_ready (rs := [17]) (by kernel_rfl) (by simp) ?_
                refine AllReadyH.cons rfl (fun K hK => ?_) AllReadyH.nil
                · try rw [if_pos (by rfl)]
                  refine wp_store_vb' (T := 28) (vs := [.int .i64 x.k, .int .i64 x.pr, .int .i64 x.to, .int .i64 x.po, .int .i64 x.x.v, .int .i64 x.x.m, .int .u8 x.x.b0, .int .u8 x.x.b1, .int .u8 x.x.b2, .int .u8 x.x.i0, .int .u8 x.x.i1, .int .u8 x.x.i2, .slice A1 n1 c1]) none rfl (.tmp 5) (.tmp 21) rfl rfl rfl hz5 rfl agg_rule rfl ?_
                  intro v32 hn hg hz
                  have hS32 := Vb.grown hS31 hg (by omega)
                  replace hz6 := hz6.grown hg (by omega)
                  replace hz4 := hz4.grown hg (by omega)
                  replace hz5 := hn
                  replace hB : Below (w.heap.size + 1) u0 v32 := hB.grown hg hw0 (fun k e => by simp at e; omega)
                  replace hw0 := Nat.le_trans hw0 hg.size
                  refine hK.out _ _ hS32 (fun _ => ?_)
                  clear hK K hn hg hz hS31
                  try simp only [Act.put, List.setIfInBounds_toArray, List.set_cons_zero, List.set_cons_succ]
                  refine wpAnyH_ready (rs := [18]) (by kernel_rfl) (by simp) ?_
                  refine AllReadyH.cons rfl (fun K hK => ?_) AllReadyH.nil
                  · try rw [if_pos (by rfl)]
                    refine wp_store_vb' (T := 28) (vs := [.int .i64 y.k, .int .i64 y.pr, .int .i64 y.to, .int .i64 y.po, .int .i64 y.x.v, .int .i64 y.x.m, .int .u8 y.x.b0, .int .u8 y.x.b1, .int .u8 y.x.b2, .int .u8 y.x.i0, .int .u8 y.x.i1, .int .u8 y.x.i2, .slice A2 n2 c2]) none rfl (.tmp 6) (.tmp 26) rfl rfl rfl hz6 rfl agg_rule rfl ?_
                    intro v33 hn hg hz
                    have hS33 := Vb.grown hS32 hg (by omega)
                    replace hz5 := hz5.grown hg (by omega)
                    replace hz4 := hz4.grown hg (by omega)
                    replace hz6 := hn
                    replace hB : Below (w.heap.size + 1) u0 v33 := hB.grown hg hw0 (fun k e => by simp at e; omega)
                    replace hw0 := Nat.le_trans hw0 hg.size
                    refine hK.out _ _ hS33 (fun _ => ?_)
                    clear hK K hn hg hz hS32
                    try simp only [Act.put, List.setIfInBounds_toArray, List.set_cons_zero, List.set_cons_succ]
                    refine wpAnyH_done (by kernel_rfl) ?_ _
                    have hS := hS33
                    go_wp2_with fail
                    go_meet
                    case rel => exact ⟨z, x, y, .slice A3 n3 c3, .slice A1 n1 c1, .slice A2 n2 c2, _, _, _, rfl, rfl, rfl, ⟨hz4, hz5, hz6⟩, hS, hB1.trans (hB.mono (by omega))⟩
    obtain ⟨X, Y, Z, SX, SY, SZ, q4, q5, q6, rfl, rfl, rfl, ⟨h4, h5, h6⟩, ha, hB⟩ := hcut
    have HN := Kp.mk (cmpR_neg X Y)
    have HS := Kp.mk (cmpR_self X)
    have HP := Kp.mk (place_zero X Y)
    have HR := Kp.mk (cmpR_prio X Y)
    have HT := Kp.mk (cmpR_le X Y Z)
    have HZ := Kp.mk (cmpR_like X Y Z)
    have HM := Kp.mk (cmpR_bd X Y)
    have HQ := Kp.mk (cmpR_bd Y Z)
    have HU := Kp.mk (cmpR_bd X Z)
    go_wp2_with (first | refine wpList_load_wantR (vs := [.int .i64 X.k, .int .i64 X.pr, .int .i64 X.to, .int .i64 X.po, .int .i64 X.x.v, .int .i64 X.x.m, .int .u8 X.x.b0, .int .u8 X.x.b1, .int .u8 X.x.b2, .int .u8 X.x.i0, .int .u8 X.x.i1, .int .u8 X.x.i2, SX]) (by rfl) (.tmp 4) rfl rfl h4 rfl agg_rule ?_ | refine wpList_load_wantR (vs := [.int .i64 Y.k, .int .i64 Y.pr, .int .i64 Y.to, .int .i64 Y.po, .int .i64 Y.x.v, .int .i64 Y.x.m, .int .u8 Y.x.b0, .int .u8 Y.x.b1, .int .u8 Y.x.b2, .int .u8 Y.x.i0, .int .u8 Y.x.i1, .int .u8 Y.x.i2, SY]) (by rfl) (.tmp 5) rfl rfl h5 rfl agg_rule ?_)
    refine (compare_any X Y SX SY _).mono ?_
    rintro e w3 ⟨rfl, hb⟩
    replace h4 := h4.below hb h4.lt
    replace h5 := h5.below hb h5.lt
    replace h6 := h6.below hb h6.lt
    replace ha := ha.below hb ha.lt
    replace hB := hB.trans (hb.mono hB.size)
    clear hb
    go_upto_region 8 with fail
    obtain hm | hm | hm := HM.out
    · have HM := Kp.mk hm
      rw [hm]
      clear hm
      have hn := Kp.mk (show cmpR Y X = 1 by have := HN.out; have := HM.out; omega)
      go_cut [49] from 27 to 111 (fun v wx => v = .bool false ∧ (Vb 28 wx q4 [.int .i64 X.k, .int .i64 X.pr, .int .i64 X.to, .int .i64 X.po, .int .i64 X.x.v, .int .i64 X.x.m, .int .u8 X.x.b0, .int .u8 X.x.b1, .int .u8 X.x.b2, .int .u8 X.x.i0, .int .u8 X.x.i1, .int .u8 X.x.i2, SX] ∧ Vb 28 wx q5 [.int .i64 Y.k, .int .i64 Y.pr, .int .i64 Y.to, .int .i64 Y.po, .int .i64 Y.x.v, .int .i64 Y.x.m, .int .u8 Y.x.b0, .int .u8 Y.x.b1, .int .u8 Y.x.b2, .int .u8 Y.x.i0, .int .u8 Y.x.i1, .int .u8 Y.x.i2, SY] ∧ Vb 28 wx q6 [.int .i64 Z.k, .int .i64 Z.pr, .int .i64 Z.to, .int .i64 Z.po, .int .i64 Z.x.v, .int .i64 Z.x.m, .int .u8 Z.x.b0, .int .u8 Z.x.b1, .int .u8 Z.x.b2, .int .u8 Z.x.i0, .int .u8 Z.x.i1, .int .u8 Z.x.i2, SZ]) ∧ Vb 35 wx w.heap.size [.int .i64 x.k, .int .i64 x.pr, .int .i64 x.to, .int .i64 x.po, .int .i64 x.x.v, .int .i64 x.x.m, .int .u8 x.x.b0, .int .u8 x.x.b1, .int .u8 x.x.b2, .int .u8 x.x.i0, .int .u8 x.x.i1, .int .u8 x.x.i2, .slice A1 n1 c1, .int .i64 y.k, .int .i64 y.pr, .int .i64 y.to, .int .i64 y.po, .int .i64 y.x.v, .int .i64 y.x.m, .int .u8 y.x.b0, .int .u8 y.x.b1, .int .u8 y.x.b2, .int .u8 y.x.i0, .int .u8 y.x.i1, .int .u8 y.x.i2, .slice A2 n2 c2, .int .i64 z.k, .int .i64 z.pr, .int .i64 z.to, .int .i64 z.po, .int .i64 z.x.v, .int .i64 z.x.m, .int .u8 z.x.b0, .int .u8 z.x.b1, .int .u8 z.x.b2, .int .u8 z.x.i0, .int .u8 z.x.i1, .int .u8 z.x.i2, .slice A3 n3 c3] ∧ Below w.heap.size w wx)
      case first => as_aux_lemma =>
        go_wp2_with (first | refine wpList_load_wantR (vs := [.int .i64 Y.k, .int .i64 Y.pr, .int .i64 Y.to, .int .i64 Y.po, .int .i64 Y.x.v, .int .i64 Y.x.m, .int .u8 Y.x.b0, .int .u8 Y.x.b1, .int .u8 Y.x.b2, .int .u8 Y.x.i0, .int .u8 Y.x.i1, .int .u8 Y.x.i2, SY]) (by rfl) (.tmp 5) rfl rfl h5 rfl agg_rule ?_ | refine wpList_load_wantR (vs := [.int .i64 X.k, .int .i64 X.pr, .int .i64 X.to, .int .i64 X.po, .int .i64 X.x.v, .int .i64 X.x.m, .int .u8 X.x.b0, .int .u8 X.x.b1, .int .u8 X.x.b2, .int .u8 X.x.i0, .int .u8 X.x.i1, .int .u8 X.x.i2, SX]) (by rfl) (.tmp 4) rfl rfl h4 rfl agg_rule ?_)
        refine (compare_any Y X SY SX _).mono ?_
        rintro e w4 ⟨rfl, hb⟩
        rw [hn.out]
        replace h4 := h4.below hb h4.lt
        replace h5 := h5.below hb h5.lt
        replace h6 := h6.below hb h6.lt
        replace ha := ha.below hb ha.lt
        replace hB := hB.trans (hb.mono hB.size)
        clear hb
        go_wp2_with (first | refine wpList_load_wantR (vs := [.int .i64 X.k, .int .i64 X.pr, .int .i64 X.to, .int .i64 X.po, .int .i64 X.x.v, .int .i64 X.x.m, .int .u8 X.x.b0, .int .u8 X.x.b1, .int .u8 X.x.b2, .int .u8 X.x.i0, .int .u8 X.x.i1, .int .u8 X.x.i2, SX]) (by rfl) (.tmp 4) rfl rfl h4 rfl agg_rule ?_)
        refine (compare_any X X SX SX _).mono ?_
        rintro e w5 ⟨rfl, hb⟩
        rw [HS.out]
        replace h4 := h4.below hb h4.lt
        replace h5 := h5.below hb h5.lt
        replace h6 := h6.below hb h6.lt
        replace ha := ha.below hb ha.lt
        replace hB := hB.trans (hb.mono hB.size)
        clear hb
        go_wp2_with fail
        go_meet
        case rel => exact ⟨rfl, ⟨h4, h5, h6⟩, ha, hB⟩
      obtain ⟨rfl, ⟨h4, h5, h6⟩, ha, hB⟩ := hcut
      have hpl := Kp.mk (show placeB X Y = false by rw [← HP.out, HM.out]; rfl)
      go_upto_region 10 with fail
      go_cut [65] from 50 to 111 (fun v wx => v = .bool false ∧ (Vb 28 wx q4 [.int .i64 X.k, .int .i64 X.pr, .int .i64 X.to, .int .i64 X.po, .int .i64 X.x.v, .int .i64 X.x.m, .int .u8 X.x.b0, .int .u8 X.x.b1, .int .u8 X.x.b2, .int .u8 X.x.i0, .int .u8 X.x.i1, .int .u8 X.x.i2, SX] ∧ Vb 28 wx q5 [.int .i64 Y.k, .int .i64 Y.pr, .int .i64 Y.to, .int .i64 Y.po, .int .i64 Y.x.v, .int .i64 Y.x.m, .int .u8 Y.x.b0, .int .u8 Y.x.b1, .int .u8 Y.x.b2, .int .u8 Y.x.i0, .int .u8 Y.x.i1, .int .u8 Y.x.i2, SY] ∧ Vb 28 wx q6 [.int .i64 Z.k, .int .i64 Z.pr, .int .i64 Z.to, .int .i64 Z.po, .int .i64 Z.x.v, .int .i64 Z.x.m, .int .u8 Z.x.b0, .int .u8 Z.x.b1, .int .u8 Z.x.b2, .int .u8 Z.x.i0, .int .u8 Z.x.i1, .int .u8 Z.x.i2, SZ]) ∧ Vb 35 wx w.heap.size [.int .i64 x.k, .int .i64 x.pr, .int .i64 x.to, .int .i64 x.po, .int .i64 x.x.v, .int .i64 x.x.m, .int .u8 x.x.b0, .int .u8 x.x.b1, .int .u8 x.x.b2, .int .u8 x.x.i0, .int .u8 x.x.i1, .int .u8 x.x.i2, .slice A1 n1 c1, .int .i64 y.k, .int .i64 y.pr, .int .i64 y.to, .int .i64 y.po, .int .i64 y.x.v, .int .i64 y.x.m, .int .u8 y.x.b0, .int .u8 y.x.b1, .int .u8 y.x.b2, .int .u8 y.x.i0, .int .u8 y.x.i1, .int .u8 y.x.i2, .slice A2 n2 c2, .int .i64 z.k, .int .i64 z.pr, .int .i64 z.to, .int .i64 z.po, .int .i64 z.x.v, .int .i64 z.x.m, .int .u8 z.x.b0, .int .u8 z.x.b1, .int .u8 z.x.b2, .int .u8 z.x.i0, .int .u8 z.x.i1, .int .u8 z.x.i2, .slice A3 n3 c3] ∧ Below w.heap.size w wx)
      case first => as_aux_lemma =>
        have c0 := h4.cell 0 rfl
        by_cases k1 : X.k = 1
        · have f1 : (X.k == 1) = true := by simpa using k1
          clear k1
          go_wp2_with (first | refine wpList_load_wantR (vs := [.int .i64 X.k, .int .i64 X.pr, .int .i64 X.to, .int .i64 X.po, .int .i64 X.x.v, .int .i64 X.x.m, .int .u8 X.x.b0, .int .u8 X.x.b1, .int .u8 X.x.b2, .int .u8 X.x.i0, .int .u8 X.x.i1, .int .u8 X.x.i2, SX]) (by rfl) (.tmp 4) rfl rfl h4 rfl agg_rule ?_ | refine wpList_load_wantR (vs := [.int .i64 Y.k, .int .i64 Y.pr, .int .i64 Y.to, .int .i64 Y.po, .int .i64 Y.x.v, .int .i64 Y.x.m, .int .u8 Y.x.b0, .int .u8 Y.x.b1, .int .u8 Y.x.b2, .int .u8 Y.x.i0, .int .u8 Y.x.i1, .int .u8 Y.x.i2, SY]) (by rfl) (.tmp 5) rfl rfl h5 rfl agg_rule ?_)
          refine (place_any X Y SX SY _).mono ?_
          rintro e w6 ⟨rfl, hb⟩
          rw [hpl.out]
          clear c0
          replace h4 := h4.below hb h4.lt
          replace h5 := h5.below hb h5.lt
          replace h6 := h6.below hb h6.lt
          replace ha := ha.below hb ha.lt
          replace hB := hB.trans (hb.mono hB.size)
          clear hb
          go_wp2_with fail
          go_meet
          case rel => exact ⟨rfl, ⟨h4, h5, h6⟩, ha, hB⟩
        by_cases k2 : X.k = 2
        · have f1 : (X.k == 1) = false := by simpa using k1
          have f2 : (X.k == 2) = true := by simpa using k2
          clear k1 k2
          go_wp2_with (first | refine wpList_load_wantR (vs := [.int .i64 X.k, .int .i64 X.pr, .int .i64 X.to, .int .i64 X.po, .int .i64 X.x.v, .int .i64 X.x.m, .int .u8 X.x.b0, .int .u8 X.x.b1, .int .u8 X.x.b2, .int .u8 X.x.i0, .int .u8 X.x.i1, .int .u8 X.x.i2, SX]) (by rfl) (.tmp 4) rfl rfl h4 rfl agg_rule ?_ | refine wpList_load_wantR (vs := [.int .i64 Y.k, .int .i64 Y.pr, .int .i64 Y.to, .int .i64 Y.po, .int .i64 Y.x.v, .int .i64 Y.x.m, .int .u8 Y.x.b0, .int .u8 Y.x.b1, .int .u8 Y.x.b2, .int .u8 Y.x.i0, .int .u8 Y.x.i1, .int .u8 Y.x.i2, SY]) (by rfl) (.tmp 5) rfl rfl h5 rfl agg_rule ?_)
          refine (place_any X Y SX SY _).mono ?_
          rintro e w6 ⟨rfl, hb⟩
          rw [hpl.out]
          clear c0
          replace h4 := h4.below hb h4.lt
          replace h5 := h5.below hb h5.lt
          replace h6 := h6.below hb h6.lt
          replace ha := ha.below hb ha.lt
          replace hB := hB.trans (hb.mono hB.size)
          clear hb
          go_wp2_with fail
          go_meet
          case rel => exact ⟨rfl, ⟨h4, h5, h6⟩, ha, hB⟩
        have f1 : (X.k == 1) = false := by simpa using k1
        have f2 : (X.k == 2) = false := by simpa using k2
        clear k1 k2
        go_wp2_with fail
        clear c0
        go_meet
        case rel => exact ⟨rfl, ⟨h4, h5, h6⟩, ha, hB⟩
      obtain ⟨rfl, ⟨h4, h5, h6⟩, ha, hB⟩ := hcut
      go_upto_region 12 with fail
      go_cut [84] from 66 to 111 (fun v wx => v = .bool false ∧ (Vb 28 wx q4 [.int .i64 X.k, .int .i64 X.pr, .int .i64 X.to, .int .i64 X.po, .int .i64 X.x.v, .int .i64 X.x.m, .int .u8 X.x.b0, .int .u8 X.x.b1, .int .u8 X.x.b2, .int .u8 X.x.i0, .int .u8 X.x.i1, .int .u8 X.x.i2, SX] ∧ Vb 28 wx q5 [.int .i64 Y.k, .int .i64 Y.pr, .int .i64 Y.to, .int .i64 Y.po, .int .i64 Y.x.v, .int .i64 Y.x.m, .int .u8 Y.x.b0, .int .u8 Y.x.b1, .int .u8 Y.x.b2, .int .u8 Y.x.i0, .int .u8 Y.x.i1, .int .u8 Y.x.i2, SY] ∧ Vb 28 wx q6 [.int .i64 Z.k, .int .i64 Z.pr, .int .i64 Z.to, .int .i64 Z.po, .int .i64 Z.x.v, .int .i64 Z.x.m, .int .u8 Z.x.b0, .int .u8 Z.x.b1, .int .u8 Z.x.b2, .int .u8 Z.x.i0, .int .u8 Z.x.i1, .int .u8 Z.x.i2, SZ]) ∧ Vb 35 wx w.heap.size [.int .i64 x.k, .int .i64 x.pr, .int .i64 x.to, .int .i64 x.po, .int .i64 x.x.v, .int .i64 x.x.m, .int .u8 x.x.b0, .int .u8 x.x.b1, .int .u8 x.x.b2, .int .u8 x.x.i0, .int .u8 x.x.i1, .int .u8 x.x.i2, .slice A1 n1 c1, .int .i64 y.k, .int .i64 y.pr, .int .i64 y.to, .int .i64 y.po, .int .i64 y.x.v, .int .i64 y.x.m, .int .u8 y.x.b0, .int .u8 y.x.b1, .int .u8 y.x.b2, .int .u8 y.x.i0, .int .u8 y.x.i1, .int .u8 y.x.i2, .slice A2 n2 c2, .int .i64 z.k, .int .i64 z.pr, .int .i64 z.to, .int .i64 z.po, .int .i64 z.x.v, .int .i64 z.x.m, .int .u8 z.x.b0, .int .u8 z.x.b1, .int .u8 z.x.b2, .int .u8 z.x.i0, .int .u8 z.x.i1, .int .u8 z.x.i2, .slice A3 n3 c3] ∧ Below w.heap.size w wx)
      case first => as_aux_lemma =>
        have c0 := h4.cell 0 rfl
        have c1 := h4.cell 1 rfl
        have e0 := h5.cell 0 rfl
        have e1 := h5.cell 1 rfl
        by_cases k1 : X.k = 1
        · have f1 : (X.k == 1) = true := by simpa using k1
          by_cases k2 : Y.k = 1
          · have f2 : (Y.k == 1) = true := by simpa using k2
            by_cases k3 : Y.pr < X.pr
            · clear k1 k2
              go_wp2_with fail
              clear c0 c1 e0 e1
              go_meet
              case rel => exact ⟨rfl, ⟨h4, h5, h6⟩, ha, hB⟩
            · have k4 : ¬ (X.pr > Y.pr) := k3
              clear k1 k2 k3
              go_wp2_with fail
              clear c0 c1 e0 e1
              go_meet
              case rel => exact ⟨rfl, ⟨h4, h5, h6⟩, ha, hB⟩
          · have f2 : (Y.k == 1) = false := by simpa using k2
            clear k1 k2
            go_wp2_with fail
            clear c0 c1 e0 e1
            go_meet
            case rel => exact ⟨rfl, ⟨h4, h5, h6⟩, ha, hB⟩
        · have f1 : (X.k == 1) = false := by simpa using k1
          clear k1
          go_wp2_with fail
          clear c0 c1 e0 e1
          go_meet
          case rel => exact ⟨rfl, ⟨h4, h5, h6⟩, ha, hB⟩
      obtain ⟨rfl, ⟨h4, h5, h6⟩, ha, hB⟩ := hcut
      go_upto_region 14 with fail
      have hd0 := (Below.refl (wc).heap.size wc).drew
      replace ha := ha.below hd0 ha.lt
      replace hB := hB.trans (hd0.mono hB.size)
      replace h4 := h4.below hd0 h4.lt
      replace h5 := h5.below hd0 h5.lt
      replace h6 := h6.below hd0 h6.lt
      obtain ⟨p, hpv⟩ : ∃ p, cmpR Y Z = p := ⟨_, rfl⟩
      by_cases hp : p ≤ 0
      · skip
        obtain ⟨q, hq⟩ : ∃ q, cmpR X Z = q := ⟨_, rfl⟩
        have hq0 : ¬ q > 0 := by have := HT.out (by have := HM.out; omega) (by omega); omega
        have hqv := Kp.mk hq
        clear hq
        replace hpv := Kp.mk hpv
        as_aux_lemma =>
          have hS0 : (fun W => Vb 28 W q4 [.int .i64 X.k, .int .i64 X.pr, .int .i64 X.to, .int .i64 X.po, .int .i64 X.x.v, .int .i64 X.x.m, .int .u8 X.x.b0, .int .u8 X.x.b1, .int .u8 X.x.b2, .int .u8 X.x.i0, .int .u8 X.x.i1, .int .u8 X.x.i2, SX] ∧ Vb 28 W q5 [.int .i64 Y.k, .int .i64 Y.pr, .int .i64 Y.to, .int .i64 Y.po, .int .i64 Y.x.v, .int .i64 Y.x.m, .int .u8 Y.x.b0, .int .u8 Y.x.b1, .int .u8 Y.x.b2, .int .u8 Y.x.i0, .int .u8 Y.x.i1, .int .u8 Y.x.i2, SY] ∧ Vb 28 W q6 [.int .i64 Z.k, .int .i64 Z.pr, .int .i64 Z.to, .int .i64 Z.po, .int .i64 Z.x.v, .int .i64 Z.x.m, .int .u8 Z.x.b0, .int .u8 Z.x.b1, .int .u8 Z.x.b2, .int .u8 Z.x.i0, .int .u8 Z.x.i1, .int .u8 Z.x.i2, SZ]) wc.drew := ⟨h4, h5, h6⟩
          refine wp_region_held_drew (S := fun W => Vb 28 W q4 [.int .i64 X.k, .int .i64 X.pr, .int .i64 X.to, .int .i64 X.po, .int .i64 X.x.v, .int .i64 X.x.m, .int .u8 X.x.b0, .int .u8 X.x.b1, .int .u8 X.x.b2, .int .u8 X.x.i0, .int .u8 X.x.i1, .int .u8 X.x.i2, SX] ∧ Vb 28 W q5 [.int .i64 Y.k, .int .i64 Y.pr, .int .i64 Y.to, .int .i64 Y.po, .int .i64 Y.x.v, .int .i64 Y.x.m, .int .u8 Y.x.b0, .int .u8 Y.x.b1, .int .u8 Y.x.b2, .int .u8 Y.x.i0, .int .u8 Y.x.i1, .int .u8 Y.x.i2, SY] ∧ Vb 28 W q6 [.int .i64 Z.k, .int .i64 Z.pr, .int .i64 Z.to, .int .i64 Z.po, .int .i64 Z.x.v, .int .i64 Z.x.m, .int .u8 Z.x.b0, .int .u8 Z.x.b1, .int .u8 Z.x.b2, .int .u8 Z.x.i0, .int .u8 Z.x.i1, .int .u8 Z.x.i2, SZ]) (by kernel_rfl) hS0 (fun _ => ?_)
          have hB0 := hB
          clear hB
          have hB : Below wc.drew.heap.size wc.drew wc.drew := Below.refl _ _
          generalize wc.drew = u0 at *
          refine takeD (i := 0) (v := .int .i64 (-1)) (some 85) rfl rfl (by kernel_rfl) (by kernel_rfl) (by kernel_rfl) (fun _ _ _ h => h) (Or.inl ⟨by rfl, ?_⟩) hS0 ?_
          · rintro w' _
            go_simp
          try simp only [Act.put, List.setIfInBounds_toArray, List.set_cons_zero, List.set_cons_succ]
          refine takeD (i := 1) (v := .bool true) (some 86) rfl rfl (by kernel_rfl) (by kernel_rfl) (by kernel_rfl) (fun _ _ _ h => h) (Or.inl ⟨by rfl, ?_⟩) hS0 ?_
          · rintro w' _
            go_simp
          try simp only [Act.put, List.setIfInBounds_toArray, List.set_cons_zero, List.set_cons_succ]
          refine takeD (i := 2) (v := .bool true) (some 87) rfl rfl (by kernel_rfl) (by kernel_rfl) (by kernel_rfl) (fun _ _ _ h => h) (Or.inl ⟨by rfl, ?_⟩) hS0 ?_
          · rintro w' _
            go_simp
          try simp only [Act.put, List.setIfInBounds_toArray, List.set_cons_zero, List.set_cons_succ]
          refine takeD (i := 3) (v := .agg #[.int .i64 Y.k, .int .i64 Y.pr, .int .i64 Y.to, .int .i64 Y.po, .int .i64 Y.x.v, .int .i64 Y.x.m, .int .u8 Y.x.b0, .int .u8 Y.x.b1, .int .u8 Y.x.b2, .int .u8 Y.x.i0, .int .u8 Y.x.i1, .int .u8 Y.x.i2, SY]) (some 88) rfl rfl (by kernel_rfl) (by kernel_rfl) (by kernel_rfl) (fun _ _ _ h => h) (Or.inl ⟨by rfl, ?_⟩) hS0 ?_
          · rintro w' ⟨s0, s1, s2⟩
            obtain ⟨d0, d1, d2, d3, d4, d5, d6, d7, d8, d9, d10, d11, d12⟩ := s1.c13
            go_simp
          try simp only [Act.put, List.setIfInBounds_toArray, List.set_cons_zero, List.set_cons_succ]
          refine takeD (i := 4) (v := .agg #[.int .i64 Z.k, .int .i64 Z.pr, .int .i64 Z.to, .int .i64 Z.po, .int .i64 Z.x.v, .int .i64 Z.x.m, .int .u8 Z.x.b0, .int .u8 Z.x.b1, .int .u8 Z.x.b2, .int .u8 Z.x.i0, .int .u8 Z.x.i1, .int .u8 Z.x.i2, SZ]) (some 89) rfl rfl (by kernel_rfl) (by kernel_rfl) (by kernel_rfl) (fun _ _ _ h => h) (Or.inl ⟨by rfl, ?_⟩) hS0 ?_
          · rintro w' ⟨s0, s1, s2⟩
            obtain ⟨d0, d1, d2, d3, d4, d5, d6, d7, d8, d9, d10, d11, d12⟩ := s2.c13
            go_simp
          try simp only [Act.put, List.setIfInBounds_toArray, List.set_cons_zero, List.set_cons_succ]
          refine wpAnyH_ready (rs := [5]) (by kernel_rfl) (by simp) ?_
          refine AllReadyH.cons rfl (fun K hK => ?_) AllReadyH.nil
          try rw [if_pos (by rfl)]
          go_simp
          go_at_call 11
          refine (compare_any Y Z SY SZ _).mono ?_
          rintro e v1 ⟨rfl, hb1⟩
          have hB1 := hB.trans (hb1.mono hB.size)
          refine hK.out _ _ (⟨hS0.1.below hb1 hS0.1.lt, hS0.2.1.below hb1 hS0.2.1.lt, hS0.2.2.below hb1 hS0.2.2.lt⟩) (fun hS1 => ?_)
          clear hK K
          try simp only [Act.put, List.setIfInBounds_toArray, List.set_cons_zero, List.set_cons_succ]
          rw [hpv.out]
          refine takeD (i := 6) (v := .bool true) (some 91) rfl rfl (by kernel_rfl) (by kernel_rfl) (by kernel_rfl) (fun _ _ _ h => h) (Or.inl ⟨by rfl, ?_⟩) hS1 ?_
          · rintro w' _
            go_simp
          try simp only [Act.put, List.setIfInBounds_toArray, List.set_cons_zero, List.set_cons_succ]
          refine takeD (i := 7) (v := .bool true) (some 92) rfl rfl (by kernel_rfl) (by kernel_rfl) (by kernel_rfl) (fun _ _ _ h => h) (Or.inl ⟨by rfl, ?_⟩) hS1 ?_
          · rintro w' _
            go_simp
          try simp only [Act.put, List.setIfInBounds_toArray, List.set_cons_zero, List.set_cons_succ]
          refine takeD (i := 8) (v := .bool true) (some 93) rfl rfl (by kernel_rfl) (by kernel_rfl) (by kernel_rfl) (fun _ _ _ h => h) (Or.inl ⟨by rfl, ?_⟩) hS1 ?_
          · rintro w' _
            go_simp
          try simp only [Act.put, List.setIfInBounds_toArray, List.set_cons_zero, List.set_cons_succ]
          refine takeD (i := 9) (v := .agg #[.int .i64 X.k, .int .i64 X.pr, .int .i64 X.to, .int .i64 X.po, .int .i64 X.x.v, .int .i64 X.x.m, .int .u8 X.x.b0, .int .u8 X.x.b1, .int .u8 X.x.b2, .int .u8 X.x.i0, .int .u8 X.x.i1, .int .u8 X.x.i2, SX]) (some 94) rfl rfl (by kernel_rfl) (by kernel_rfl) (by kernel_rfl) (fun _ _ _ h => h) (Or.inl ⟨by rfl, ?_⟩) hS1 ?_
          · rintro w' ⟨s0, s1, s2⟩
            obtain ⟨d0, d1, d2, d3, d4, d5, d6, d7, d8, d9, d10, d11, d12⟩ := s0.c13
            go_simp
          try simp only [Act.put, List.setIfInBounds_toArray, List.set_cons_zero, List.set_cons_succ]
          refine takeD (i := 10) (v := .agg #[.int .i64 Z.k, .int .i64 Z.pr, .int .i64 Z.to, .int .i64 Z.po, .int .i64 Z.x.v, .int .i64 Z.x.m, .int .u8 Z.x.b0, .int .u8 Z.x.b1, .int .u8 Z.x.b2, .int .u8 Z.x.i0, .int .u8 Z.x.i1, .int .u8 Z.x.i2, SZ]) (some 95) rfl rfl (by kernel_rfl) (by kernel_rfl) (by kernel_rfl) (fun _ _ _ h => h) (Or.inl ⟨by rfl, ?_⟩) hS1 ?_
          · rintro w' ⟨s0, s1, s2⟩
            obtain ⟨d0, d1, d2, d3, d4, d5, d6, d7, d8, d9, d10, d11, d12⟩ := s2.c13
            go_simp
          try simp only [Act.put, List.setIfInBounds_toArray, List.set_cons_zero, List.set_cons_succ]
          refine wpAnyH_ready (rs := [11]) (by kernel_rfl) (by simp) ?_
          refine AllReadyH.cons rfl (fun K hK => ?_) AllReadyH.nil
          try rw [if_pos (by rfl)]
          go_simp
          go_at_call 11
          refine (compare_any X Z SX SZ _).mono ?_
          rintro e v2 ⟨rfl, hb2⟩
          have hB2 := hB1.trans (hb2.mono hB1.size)
          refine hK.out _ _ (⟨hS1.1.below hb2 hS1.1.lt, hS1.2.1.below hb2 hS1.2.1.lt, hS1.2.2.below hb2 hS1.2.2.lt⟩) (fun hS2 => ?_)
          clear hK K
          try simp only [Act.put, List.setIfInBounds_toArray, List.set_cons_zero, List.set_cons_succ]
          rw [hqv.out]
          refine takeD (i := 12) (v := .bool false) (some 97) rfl rfl (by kernel_rfl) (by kernel_rfl) (by kernel_rfl) (fun _ _ _ h => h) (Or.inl ⟨by rfl, ?_⟩) hS2 ?_
          · rintro w' _
            go_simp
          try simp only [Act.put, List.setIfInBounds_toArray, List.set_cons_zero, List.set_cons_succ]
          refine takeD (i := 13) (v := .bool false) (some 98) rfl rfl (by kernel_rfl) (by kernel_rfl) (by kernel_rfl) (fun _ _ _ h => h) (Or.inl ⟨by rfl, ?_⟩) hS2 ?_
          · rintro w' _
            go_simp
          try simp only [Act.put, List.setIfInBounds_toArray, List.set_cons_zero, List.set_cons_succ]
          refine takeD (i := 14) (v := .bool false) (some 99) rfl rfl (by kernel_rfl) (by kernel_rfl) (by kernel_rfl) (fun _ _ _ h => h) (Or.inl ⟨by rfl, ?_⟩) hS2 ?_
          · rintro w' _
            go_simp
          try simp only [Act.put, List.setIfInBounds_toArray, List.set_cons_zero, List.set_cons_succ]
          refine takeD (i := 15) (v := .int .i64 (-1)) (some 100) rfl rfl (by kernel_rfl) (by kernel_rfl) (by kernel_rfl) (fun _ _ _ h => h) (Or.inl ⟨by rfl, ?_⟩) hS2 ?_
          · rintro w' _
            go_simp
          try simp only [Act.put, List.setIfInBounds_toArray, List.set_cons_zero, List.set_cons_succ]
          refine takeD (i := 16) (v := .bool false) (some 101) rfl rfl (by kernel_rfl) (by kernel_rfl) (by kernel_rfl) (fun _ _ _ h => h) (Or.inl ⟨by rfl, ?_⟩) hS2 ?_
          · rintro w' _
            go_simp
          try simp only [Act.put, List.setIfInBounds_toArray, List.set_cons_zero, List.set_cons_succ]
          refine takeD (i := 17) (v := .bool false) (some 102) rfl rfl (by kernel_rfl) (by kernel_rfl) (by kernel_rfl) (fun _ _ _ h => h) (Or.inl ⟨by rfl, ?_⟩) hS2 ?_
          · rintro w' _
            go_simp
          try simp only [Act.put, List.setIfInBounds_toArray, List.set_cons_zero, List.set_cons_succ]
          refine takeD (i := 18) (v := undef) (some 103) rfl rfl (by kernel_rfl) (by kernel_rfl) (by kernel_rfl) (fun _ _ _ h => h) (Or.inr ⟨by rfl, rfl⟩) hS2 ?_
          try simp only [Act.put, List.setIfInBounds_toArray, List.set_cons_zero, List.set_cons_succ]
          refine takeD (i := 19) (v := undef) (some 104) rfl rfl (by kernel_rfl) (by kernel_rfl) (by kernel_rfl) (fun _ _ _ h => h) (Or.inr ⟨by rfl, rfl⟩) hS2 ?_
          try simp only [Act.put, List.setIfInBounds_toArray, List.set_cons_zero, List.set_cons_succ]
          refine takeD (i := 20) (v := undef) (some 105) rfl rfl (by kernel_rfl) (by kernel_rfl) (by kernel_rfl) (fun _ _ _ h => h) (Or.inr ⟨by rfl, rfl⟩) hS2 ?_
          try simp only [Act.put, List.setIfInBounds_toArray, List.set_cons_zero, List.set_cons_succ]
          refine takeD (i := 21) (v := undef) (some 106) rfl rfl (by kernel_rfl) (by kernel_rfl) (by kernel_rfl) (fun _ _ _ h => h) (Or.inr ⟨by rfl, rfl⟩) hS2 ?_
          try simp only [Act.put, List.setIfInBounds_toArray, List.set_cons_zero, List.set_cons_succ]
          refine takeD (i := 22) (v := undef) (some 107) rfl rfl (by kernel_rfl) (by kernel_rfl) (by kernel_rfl) (fun _ _ _ h => h) (Or.inr ⟨by rfl, rfl⟩) hS2 ?_
          try simp only [Act.put, List.setIfInBounds_toArray, List.set_cons_zero, List.set_cons_succ]
          refine takeD (i := 23) (v := undef) (some 108) rfl rfl (by kernel_rfl) (by kernel_rfl) (by kernel_rfl) (fun _ _ _ h => h) (Or.inr ⟨by rfl, rfl⟩) hS2 ?_
          try simp only [Act.put, List.setIfInBounds_toArray, List.set_cons_zero, List.set_cons_succ]
          refine takeD (i := 24) (v := undef) (some 109) rfl rfl (by kernel_rfl) (by kernel_rfl) (by kernel_rfl) (fun _ _ _ h => h) (Or.inr ⟨by rfl, rfl⟩) hS2 ?_
          try simp only [Act.put, List.setIfInBounds_toArray, List.set_cons_zero, List.set_cons_succ]
          refine takeD (i := 25) (v := .bool false) (some 110) rfl rfl (by kernel_rfl) (by kernel_rfl) (by kernel_rfl) (fun _ _ _ h => h) (Or.inl ⟨by rfl, ?_⟩) hS2 ?_
          · rintro w' _
            go_simp
          try simp only [Act.put, List.setIfInBounds_toArray, List.set_cons_zero, List.set_cons_succ]
          refine takeD (i := 26) (v := .bool false) (some 111) rfl rfl (by kernel_rfl) (by kernel_rfl) (by kernel_rfl) (fun _ _ _ h => h) (Or.inl ⟨by rfl, ?_⟩) hS2 ?_
          · rintro w' _
            go_simp
          try simp only [Act.put, List.setIfInBounds_toArray, List.set_cons_zero, List.set_cons_succ]
          refine wpAnyH_done (by kernel_rfl) ?_ _
          go_wp2_with fail
          go_roundw
          case rel => exact ⟨k + 1, by omega, by go_num, ha.below hB2 ha.lt, hB0.trans (hB2.mono hB0.size)⟩
          case measure => simp [intOf]; omega
      · replace hp : ¬ p ≤ 0 := hp
        replace hpv := Kp.mk hpv
        as_aux_lemma =>
          have hS0 : (fun W => Vb 28 W q4 [.int .i64 X.k, .int .i64 X.pr, .int .i64 X.to, .int .i64 X.po, .int .i64 X.x.v, .int .i64 X.x.m, .int .u8 X.x.b0, .int .u8 X.x.b1, .int .u8 X.x.b2, .int .u8 X.x.i0, .int .u8 X.x.i1, .int .u8 X.x.i2, SX] ∧ Vb 28 W q5 [.int .i64 Y.k, .int .i64 Y.pr, .int .i64 Y.to, .int .i64 Y.po, .int .i64 Y.x.v, .int .i64 Y.x.m, .int .u8 Y.x.b0, .int .u8 Y.x.b1, .int .u8 Y.x.b2, .int .u8 Y.x.i0, .int .u8 Y.x.i1, .int .u8 Y.x.i2, SY] ∧ Vb 28 W q6 [.int .i64 Z.k, .int .i64 Z.pr, .int .i64 Z.to, .int .i64 Z.po, .int .i64 Z.x.v, .int .i64 Z.x.m, .int .u8 Z.x.b0, .int .u8 Z.x.b1, .int .u8 Z.x.b2, .int .u8 Z.x.i0, .int .u8 Z.x.i1, .int .u8 Z.x.i2, SZ]) wc.drew := ⟨h4, h5, h6⟩
          refine wp_region_held_drew (S := fun W => Vb 28 W q4 [.int .i64 X.k, .int .i64 X.pr, .int .i64 X.to, .int .i64 X.po, .int .i64 X.x.v, .int .i64 X.x.m, .int .u8 X.x.b0, .int .u8 X.x.b1, .int .u8 X.x.b2, .int .u8 X.x.i0, .int .u8 X.x.i1, .int .u8 X.x.i2, SX] ∧ Vb 28 W q5 [.int .i64 Y.k, .int .i64 Y.pr, .int .i64 Y.to, .int .i64 Y.po, .int .i64 Y.x.v, .int .i64 Y.x.m, .int .u8 Y.x.b0, .int .u8 Y.x.b1, .int .u8 Y.x.b2, .int .u8 Y.x.i0, .int .u8 Y.x.i1, .int .u8 Y.x.i2, SY] ∧ Vb 28 W q6 [.int .i64 Z.k, .int .i64 Z.pr, .int .i64 Z.to, .int .i64 Z.po, .int .i64 Z.x.v, .int .i64 Z.x.m, .int .u8 Z.x.b0, .int .u8 Z.x.b1, .int .u8 Z.x.b2, .int .u8 Z.x.i0, .int .u8 Z.x.i1, .int .u8 Z.x.i2, SZ]) (by kernel_rfl) hS0 (fun _ => ?_)
          have hB0 := hB
          clear hB
          have hB : Below wc.drew.heap.size wc.drew wc.drew := Below.refl _ _
          generalize wc.drew = u0 at *
          refine takeD (i := 0) (v := .int .i64 (-1)) (some 85) rfl rfl (by kernel_rfl) (by kernel_rfl) (by kernel_rfl) (fun _ _ _ h => h) (Or.inl ⟨by rfl, ?_⟩) hS0 ?_
          · rintro w' _
            go_simp
          try simp only [Act.put, List.setIfInBounds_toArray, List.set_cons_zero, List.set_cons_succ]
          refine takeD (i := 1) (v := .bool true) (some 86) rfl rfl (by kernel_rfl) (by kernel_rfl) (by kernel_rfl) (fun _ _ _ h => h) (Or.inl ⟨by rfl, ?_⟩) hS0 ?_
          · rintro w' _
            go_simp
          try simp only [Act.put, List.setIfInBounds_toArray, List.set_cons_zero, List.set_cons_succ]
          refine takeD (i := 2) (v := .bool true) (some 87) rfl rfl (by kernel_rfl) (by kernel_rfl) (by kernel_rfl) (fun _ _ _ h => h) (Or.inl ⟨by rfl, ?_⟩) hS0 ?_
          · rintro w' _
            go_simp
          try simp only [Act.put, List.setIfInBounds_toArray, List.set_cons_zero, List.set_cons_succ]
          refine takeD (i := 3) (v := .agg #[.int .i64 Y.k, .int .i64 Y.pr, .int .i64 Y.to, .int .i64 Y.po, .int .i64 Y.x.v, .int .i64 Y.x.m, .int .u8 Y.x.b0, .int .u8 Y.x.b1, .int .u8 Y.x.b2, .int .u8 Y.x.i0, .int .u8 Y.x.i1, .int .u8 Y.x.i2, SY]) (some 88) rfl rfl (by kernel_rfl) (by kernel_rfl) (by kernel_rfl) (fun _ _ _ h => h) (Or.inl ⟨by rfl, ?_⟩) hS0 ?_
          · rintro w' ⟨s0, s1, s2⟩
            obtain ⟨d0, d1, d2, d3, d4, d5, d6, d7, d8, d9, d10, d11, d12⟩ := s1.c13
            go_simp
          try simp only [Act.put, List.setIfInBounds_toArray, List.set_cons_zero, List.set_cons_succ]
          refine takeD (i := 4) (v := .agg #[.int .i64 Z.k, .int .i64 Z.pr, .int .i64 Z.to, .int .i64 Z.po, .int .i64 Z.x.v, .int .i64 Z.x.m, .int .u8 Z.x.b0, .int .u8 Z.x.b1, .int .u8 Z.x.b2, .int .u8 Z.x.i0, .int .u8 Z.x.i1, .int .u8 Z.x.i2, SZ]) (some 89) rfl rfl (by kernel_rfl) (by kernel_rfl) (by kernel_rfl) (fun _ _ _ h => h) (Or.inl ⟨by rfl, ?_⟩) hS0 ?_
          · rintro w' ⟨s0, s1, s2⟩
            obtain ⟨d0, d1, d2, d3, d4, d5, d6, d7, d8, d9, d10, d11, d12⟩ := s2.c13
            go_simp
          try simp only [Act.put, List.setIfInBounds_toArray, List.set_cons_zero, List.set_cons_succ]
          refine wpAnyH_ready (rs := [5]) (by kernel_rfl) (by simp) ?_
          refine AllReadyH.cons rfl (fun K hK => ?_) AllReadyH.nil
          try rw [if_pos (by rfl)]
          go_simp
          go_at_call 11
          refine (compare_any Y Z SY SZ _).mono ?_
          rintro e v1 ⟨rfl, hb1⟩
          have hB1 := hB.trans (hb1.mono hB.size)
          refine hK.out _ _ (⟨hS0.1.below hb1 hS0.1.lt, hS0.2.1.below hb1 hS0.2.1.lt, hS0.2.2.below hb1 hS0.2.2.lt⟩) (fun hS1 => ?_)
          clear hK K
          try simp only [Act.put, List.setIfInBounds_toArray, List.set_cons_zero, List.set_cons_succ]
          rw [hpv.out]
          refine takeD (i := 6) (v := .bool false) (some 91) rfl rfl (by kernel_rfl) (by kernel_rfl) (by kernel_rfl) (fun _ _ _ h => h) (Or.inl ⟨by rfl, ?_⟩) hS1 ?_
          · rintro w' _
            go_simp
          try simp only [Act.put, List.setIfInBounds_toArray, List.set_cons_zero, List.set_cons_succ]
          refine takeD (i := 7) (v := .bool false) (some 92) rfl rfl (by kernel_rfl) (by kernel_rfl) (by kernel_rfl) (fun _ _ _ h => h) (Or.inl ⟨by rfl, ?_⟩) hS1 ?_
          · rintro w' _
            go_simp
          try simp only [Act.put, List.setIfInBounds_toArray, List.set_cons_zero, List.set_cons_succ]
          refine takeD (i := 8) (v := .bool false) (some 93) rfl rfl (by kernel_rfl) (by kernel_rfl) (by kernel_rfl) (fun _ _ _ h => h) (Or.inl ⟨by rfl, ?_⟩) hS1 ?_
          · rintro w' _
            go_simp
          try simp only [Act.put, List.setIfInBounds_toArray, List.set_cons_zero, List.set_cons_succ]
          refine takeD (i := 9) (v := undef) (some 94) rfl rfl (by kernel_rfl) (by kernel_rfl) (by kernel_rfl) (fun _ _ _ h => h) (Or.inr ⟨by rfl, rfl⟩) hS1 ?_
          try simp only [Act.put, List.setIfInBounds_toArray, List.set_cons_zero, List.set_cons_succ]
          refine takeD (i := 10) (v := undef) (some 95) rfl rfl (by kernel_rfl) (by kernel_rfl) (by kernel_rfl) (fun _ _ _ h => h) (Or.inr ⟨by rfl, rfl⟩) hS1 ?_
          try simp only [Act.put, List.setIfInBounds_toArray, List.set_cons_zero, List.set_cons_succ]
          refine takeD (i := 11) (v := undef) (some 96) rfl rfl (by kernel_rfl) (by kernel_rfl) (by kernel_rfl) (fun _ _ _ h => h) (Or.inr ⟨by rfl, rfl⟩) hS1 ?_
          try simp only [Act.put, List.setIfInBounds_toArray, List.set_cons_zero, List.set_cons_succ]
          refine takeD (i := 12) (v := undef) (some 97) rfl rfl (by kernel_rfl) (by kernel_rfl) (by kernel_rfl) (fun _ _ _ h => h) (Or.inr ⟨by rfl, rfl⟩) hS1 ?_
          try simp only [Act.put, List.setIfInBounds_toArray, List.set_cons_zero, List.set_cons_succ]
          refine takeD (i := 13) (v := .bool false) (some 98) rfl rfl (by kernel_rfl) (by kernel_rfl) (by kernel_rfl) (fun _ _ _ h => h) (Or.inl ⟨by rfl, ?_⟩) hS1 ?_
          · rintro w' _
            go_simp
          try simp only [Act.put, List.setIfInBounds_toArray, List.set_cons_zero, List.set_cons_succ]
          refine takeD (i := 14) (v := .bool false) (some 99) rfl rfl (by kernel_rfl) (by kernel_rfl) (by kernel_rfl) (fun _ _ _ h => h) (Or.inl ⟨by rfl, ?_⟩) hS1 ?_
          · rintro w' _
            go_simp
          try simp only [Act.put, List.setIfInBounds_toArray, List.set_cons_zero, List.set_cons_succ]
          refine takeD (i := 15) (v := .int .i64 (-1)) (some 100) rfl rfl (by kernel_rfl) (by kernel_rfl) (by kernel_rfl) (fun _ _ _ h => h) (Or.inl ⟨by rfl, ?_⟩) hS1 ?_
          · rintro w' _
            go_simp
          try simp only [Act.put, List.setIfInBounds_toArray, List.set_cons_zero, List.set_cons_succ]
          refine takeD (i := 16) (v := .bool false) (some 101) rfl rfl (by kernel_rfl) (by kernel_rfl) (by kernel_rfl) (fun _ _ _ h => h) (Or.inl ⟨by rfl, ?_⟩) hS1 ?_
          · rintro w' _
            go_simp
          try simp only [Act.put, List.setIfInBounds_toArray, List.set_cons_zero, List.set_cons_succ]
          refine takeD (i := 17) (v := .bool false) (some 102) rfl rfl (by kernel_rfl) (by kernel_rfl) (by kernel_rfl) (fun _ _ _ h => h) (Or.inl ⟨by rfl, ?_⟩) hS1 ?_
          · rintro w' _
            go_simp
          try simp only [Act.put, List.setIfInBounds_toArray, List.set_cons_zero, List.set_cons_succ]
          refine takeD (i := 18) (v := undef) (some 103) rfl rfl (by kernel_rfl) (by kernel_rfl) (by kernel_rfl) (fun _ _ _ h => h) (Or.inr ⟨by rfl, rfl⟩) hS1 ?_
          try simp only [Act.put, List.setIfInBounds_toArray, List.set_cons_zero, List.set_cons_succ]
          refine takeD (i := 19) (v := undef) (some 104) rfl rfl (by kernel_rfl) (by kernel_rfl) (by kernel_rfl) (fun _ _ _ h => h) (Or.inr ⟨by rfl, rfl⟩) hS1 ?_
          try simp only [Act.put, List.setIfInBounds_toArray, List.set_cons_zero, List.set_cons_succ]
          refine takeD (i := 20) (v := undef) (some 105) rfl rfl (by kernel_rfl) (by kernel_rfl) (by kernel_rfl) (fun _ _ _ h => h) (Or.inr ⟨by rfl, rfl⟩) hS1 ?_
          try simp only [Act.put, List.setIfInBounds_toArray, List.set_cons_zero, List.set_cons_succ]
          refine takeD (i := 21) (v := undef) (some 106) rfl rfl (by kernel_rfl) (by kernel_rfl) (by kernel_rfl) (fun _ _ _ h => h) (Or.inr ⟨by rfl, rfl⟩) hS1 ?_
          try simp only [Act.put, List.setIfInBounds_toArray, List.set_cons_zero, List.set_cons_succ]
          refine takeD (i := 22) (v := undef) (some 107) rfl rfl (by kernel_rfl) (by kernel_rfl) (by kernel_rfl) (fun _ _ _ h => h) (Or.inr ⟨by rfl, rfl⟩) hS1 ?_
          try simp only [Act.put, List.setIfInBounds_toArray, List.set_cons_zero, List.set_cons_succ]
          refine takeD (i := 23) (v := undef) (some 108) rfl rfl (by kernel_rfl) (by kernel_rfl) (by kernel_rfl) (fun _ _ _ h => h) (Or.inr ⟨by rfl, rfl⟩) hS1 ?_
          try simp only [Act.put, List.setIfInBounds_toArray, List.set_cons_zero, List.set_cons_succ]
          refine takeD (i := 24) (v := undef) (some 109) rfl rfl (by kernel_rfl) (by kernel_rfl) (by kernel_rfl) (fun _ _ _ h => h) (Or.inr ⟨by rfl, rfl⟩) hS1 ?_
          try simp only [Act.put, List.setIfInBounds_toArray, List.set_cons_zero, List.set_cons_succ]
          refine takeD (i := 25) (v := .bool false) (some 110) rfl rfl (by kernel_rfl) (by kernel_rfl) (by kernel_rfl) (fun _ _ _ h => h) (Or.inl ⟨by rfl, ?_⟩) hS1 ?_
          · rintro w' _
            go_simp
          try simp only [Act.put, List.setIfInBounds_toArray, List.set_cons_zero, List.set_cons_succ]
          refine takeD (i := 26) (v := .bool false) (some 111) rfl rfl (by kernel_rfl) (by kernel_rfl) (by kernel_rfl) (fun _ _ _ h => h) (Or.inl ⟨by rfl, ?_⟩) hS1 ?_
          · rintro w' _
            go_simp
          try simp only [Act.put, List.setIfInBounds_toArray, List.set_cons_zero, List.set_cons_succ]
          refine wpAnyH_done (by kernel_rfl) ?_ _
          go_wp2_with fail
          go_roundw
          case rel => exact ⟨k + 1, by omega, by go_num, ha.below hB1 ha.lt, hB0.trans (hB1.mono hB0.size)⟩
          case measure => simp [intOf]; omega
    · have HM := Kp.mk hm
      rw [hm]
      clear hm
      have hn := Kp.mk (show cmpR Y X = 0 by have := HN.out; have := HM.out; omega)
      go_cut [49] from 27 to 111 (fun v wx => v = .bool false ∧ (Vb 28 wx q4 [.int .i64 X.k, .int .i64 X.pr, .int .i64 X.to, .int .i64 X.po, .int .i64 X.x.v, .int .i64 X.x.m, .int .u8 X.x.b0, .int .u8 X.x.b1, .int .u8 X.x.b2, .int .u8 X.x.i0, .int .u8 X.x.i1, .int .u8 X.x.i2, SX] ∧ Vb 28 wx q5 [.int .i64 Y.k, .int .i64 Y.pr, .int .i64 Y.to, .int .i64 Y.po, .int .i64 Y.x.v, .int .i64 Y.x.m, .int .u8 Y.x.b0, .int .u8 Y.x.b1, .int .u8 Y.x.b2, .int .u8 Y.x.i0, .int .u8 Y.x.i1, .int .u8 Y.x.i2, SY] ∧ Vb 28 wx q6 [.int .i64 Z.k, .int .i64 Z.pr, .int .i64 Z.to, .int .i64 Z.po, .int .i64 Z.x.v, .int .i64 Z.x.m, .int .u8 Z.x.b0, .int .u8 Z.x.b1, .int .u8 Z.x.b2, .int .u8 Z.x.i0, .int .u8 Z.x.i1, .int .u8 Z.x.i2, SZ]) ∧ Vb 35 wx w.heap.size [.int .i64 x.k, .int .i64 x.pr, .int .i64 x.to, .int .i64 x.po, .int .i64 x.x.v, .int .i64 x.x.m, .int .u8 x.x.b0, .int .u8 x.x.b1, .int .u8 x.x.b2, .int .u8 x.x.i0, .int .u8 x.x.i1, .int .u8 x.x.i2, .slice A1 n1 c1, .int .i64 y.k, .int .i64 y.pr, .int .i64 y.to, .int .i64 y.po, .int .i64 y.x.v, .int .i64 y.x.m, .int .u8 y.x.b0, .int .u8 y.x.b1, .int .u8 y.x.b2, .int .u8 y.x.i0, .int .u8 y.x.i1, .int .u8 y.x.i2, .slice A2 n2 c2, .int .i64 z.k, .int .i64 z.pr, .int .i64 z.to, .int .i64 z.po, .int .i64 z.x.v, .int .i64 z.x.m, .int .u8 z.x.b0, .int .u8 z.x.b1, .int .u8 z.x.b2, .int .u8 z.x.i0, .int .u8 z.x.i1, .int .u8 z.x.i2, .slice A3 n3 c3] ∧ Below w.heap.size w wx)
      case first => as_aux_lemma =>
        go_wp2_with (first | refine wpList_load_wantR (vs := [.int .i64 Y.k, .int .i64 Y.pr, .int .i64 Y.to, .int .i64 Y.po, .int .i64 Y.x.v, .int .i64 Y.x.m, .int .u8 Y.x.b0, .int .u8 Y.x.b1, .int .u8 Y.x.b2, .int .u8 Y.x.i0, .int .u8 Y.x.i1, .int .u8 Y.x.i2, SY]) (by rfl) (.tmp 5) rfl rfl h5 rfl agg_rule ?_ | refine wpList_load_wantR (vs := [.int .i64 X.k, .int .i64 X.pr, .int .i64 X.to, .int .i64 X.po, .int .i64 X.x.v, .int .i64 X.x.m, .int .u8 X.x.b0, .int .u8 X.x.b1, .int .u8 X.x.b2, .int .u8 X.x.i0, .int .u8 X.x.i1, .int .u8 X.x.i2, SX]) (by rfl) (.tmp 4) rfl rfl h4 rfl agg_rule ?_)
        refine (compare_any Y X SY SX _).mono ?_
        rintro e w4 ⟨rfl, hb⟩
        rw [hn.out]
        replace h4 := h4.below hb h4.lt
        replace h5 := h5.below hb h5.lt
        replace h6 := h6.below hb h6.lt
        replace ha := ha.below hb ha.lt
        replace hB := hB.trans (hb.mono hB.size)
        clear hb
        go_wp2_with (first | refine wpList_load_wantR (vs := [.int .i64 X.k, .int .i64 X.pr, .int .i64 X.to, .int .i64 X.po, .int .i64 X.x.v, .int .i64 X.x.m, .int .u8 X.x.b0, .int .u8 X.x.b1, .int .u8 X.x.b2, .int .u8 X.x.i0, .int .u8 X.x.i1, .int .u8 X.x.i2, SX]) (by rfl) (.tmp 4) rfl rfl h4 rfl agg_rule ?_)
        refine (compare_any X X SX SX _).mono ?_
        rintro e w5 ⟨rfl, hb⟩
        rw [HS.out]
        replace h4 := h4.below hb h4.lt
        replace h5 := h5.below hb h5.lt
        replace h6 := h6.below hb h6.lt
        replace ha := ha.below hb ha.lt
        replace hB := hB.trans (hb.mono hB.size)
        clear hb
        go_wp2_with fail
        go_meet
        case rel => exact ⟨rfl, ⟨h4, h5, h6⟩, ha, hB⟩
      obtain ⟨rfl, ⟨h4, h5, h6⟩, ha, hB⟩ := hcut
      have hpl := Kp.mk (show placeB X Y = true by rw [← HP.out, HM.out]; rfl)
      go_upto_region 10 with fail
      go_cut [65] from 50 to 111 (fun v wx => v = .bool false ∧ (Vb 28 wx q4 [.int .i64 X.k, .int .i64 X.pr, .int .i64 X.to, .int .i64 X.po, .int .i64 X.x.v, .int .i64 X.x.m, .int .u8 X.x.b0, .int .u8 X.x.b1, .int .u8 X.x.b2, .int .u8 X.x.i0, .int .u8 X.x.i1, .int .u8 X.x.i2, SX] ∧ Vb 28 wx q5 [.int .i64 Y.k, .int .i64 Y.pr, .int .i64 Y.to, .int .i64 Y.po, .int .i64 Y.x.v, .int .i64 Y.x.m, .int .u8 Y.x.b0, .int .u8 Y.x.b1, .int .u8 Y.x.b2, .int .u8 Y.x.i0, .int .u8 Y.x.i1, .int .u8 Y.x.i2, SY] ∧ Vb 28 wx q6 [.int .i64 Z.k, .int .i64 Z.pr, .int .i64 Z.to, .int .i64 Z.po, .int .i64 Z.x.v, .int .i64 Z.x.m, .int .u8 Z.x.b0, .int .u8 Z.x.b1, .int .u8 Z.x.b2, .int .u8 Z.x.i0, .int .u8 Z.x.i1, .int .u8 Z.x.i2, SZ]) ∧ Vb 35 wx w.heap.size [.int .i64 x.k, .int .i64 x.pr, .int .i64 x.to, .int .i64 x.po, .int .i64 x.x.v, .int .i64 x.x.m, .int .u8 x.x.b0, .int .u8 x.x.b1, .int .u8 x.x.b2, .int .u8 x.x.i0, .int .u8 x.x.i1, .int .u8 x.x.i2, .slice A1 n1 c1, .int .i64 y.k, .int .i64 y.pr, .int .i64 y.to, .int .i64 y.po, .int .i64 y.x.v, .int .i64 y.x.m, .int .u8 y.x.b0, .int .u8 y.x.b1, .int .u8 y.x.b2, .int .u8 y.x.i0, .int .u8 y.x.i1, .int .u8 y.x.i2, .slice A2 n2 c2, .int .i64 z.k, .int .i64 z.pr, .int .i64 z.to, .int .i64 z.po, .int .i64 z.x.v, .int .i64 z.x.m, .int .u8 z.x.b0, .int .u8 z.x.b1, .int .u8 z.x.b2, .int .u8 z.x.i0, .int .u8 z.x.i1, .int .u8 z.x.i2, .slice A3 n3 c3] ∧ Below w.heap.size w wx)
      case first => as_aux_lemma =>
        have c0 := h4.cell 0 rfl
        by_cases k1 : X.k = 1
        · have f1 : (X.k == 1) = true := by simpa using k1
          clear k1
          go_wp2_with (first | refine wpList_load_wantR (vs := [.int .i64 X.k, .int .i64 X.pr, .int .i64 X.to, .int .i64 X.po, .int .i64 X.x.v, .int .i64 X.x.m, .int .u8 X.x.b0, .int .u8 X.x.b1, .int .u8 X.x.b2, .int .u8 X.x.i0, .int .u8 X.x.i1, .int .u8 X.x.i2, SX]) (by rfl) (.tmp 4) rfl rfl h4 rfl agg_rule ?_ | refine wpList_load_wantR (vs := [.int .i64 Y.k, .int .i64 Y.pr, .int .i64 Y.to, .int .i64 Y.po, .int .i64 Y.x.v, .int .i64 Y.x.m, .int .u8 Y.x.b0, .int .u8 Y.x.b1, .int .u8 Y.x.b2, .int .u8 Y.x.i0, .int .u8 Y.x.i1, .int .u8 Y.x.i2, SY]) (by rfl) (.tmp 5) rfl rfl h5 rfl agg_rule ?_)
          refine (place_any X Y SX SY _).mono ?_
          rintro e w6 ⟨rfl, hb⟩
          rw [hpl.out]
          clear c0
          replace h4 := h4.below hb h4.lt
          replace h5 := h5.below hb h5.lt
          replace h6 := h6.below hb h6.lt
          replace ha := ha.below hb ha.lt
          replace hB := hB.trans (hb.mono hB.size)
          clear hb
          go_wp2_with fail
          go_meet
          case rel => exact ⟨rfl, ⟨h4, h5, h6⟩, ha, hB⟩
        by_cases k2 : X.k = 2
        · have f1 : (X.k == 1) = false := by simpa using k1
          have f2 : (X.k == 2) = true := by simpa using k2
          clear k1 k2
          go_wp2_with (first | refine wpList_load_wantR (vs := [.int .i64 X.k, .int .i64 X.pr, .int .i64 X.to, .int .i64 X.po, .int .i64 X.x.v, .int .i64 X.x.m, .int .u8 X.x.b0, .int .u8 X.x.b1, .int .u8 X.x.b2, .int .u8 X.x.i0, .int .u8 X.x.i1, .int .u8 X.x.i2, SX]) (by rfl) (.tmp 4) rfl rfl h4 rfl agg_rule ?_ | refine wpList_load_wantR (vs := [.int .i64 Y.k, .int .i64 Y.pr, .int .i64 Y.to, .int .i64 Y.po, .int .i64 Y.x.v, .int .i64 Y.x.m, .int .u8 Y.x.b0, .int .u8 Y.x.b1, .int .u8 Y.x.b2, .int .u8 Y.x.i0, .int .u8 Y.x.i1, .int .u8 Y.x.i2, SY]) (by rfl) (.tmp 5) rfl rfl h5 rfl agg_rule ?_)
          refine (place_any X Y SX SY _).mono ?_
          rintro e w6 ⟨rfl, hb⟩
          rw [hpl.out]
          clear c0
          replace h4 := h4.below hb h4.lt
          replace h5 := h5.below hb h5.lt
          replace h6 := h6.below hb h6.lt
          replace ha := ha.below hb ha.lt
          replace hB := hB.trans (hb.mono hB.size)
          clear hb
          go_wp2_with fail
          go_meet
          case rel => exact ⟨rfl, ⟨h4, h5, h6⟩, ha, hB⟩
        have f1 : (X.k == 1) = false := by simpa using k1
        have f2 : (X.k == 2) = false := by simpa using k2
        clear k1 k2
        go_wp2_with fail
        clear c0
        go_meet
        case rel => exact ⟨rfl, ⟨h4, h5, h6⟩, ha, hB⟩
      obtain ⟨rfl, ⟨h4, h5, h6⟩, ha, hB⟩ := hcut
      go_upto_region 12 with fail
      go_cut [84] from 66 to 111 (fun v wx => v = .bool false ∧ (Vb 28 wx q4 [.int .i64 X.k, .int .i64 X.pr, .int .i64 X.to, .int .i64 X.po, .int .i64 X.x.v, .int .i64 X.x.m, .int .u8 X.x.b0, .int .u8 X.x.b1, .int .u8 X.x.b2, .int .u8 X.x.i0, .int .u8 X.x.i1, .int .u8 X.x.i2, SX] ∧ Vb 28 wx q5 [.int .i64 Y.k, .int .i64 Y.pr, .int .i64 Y.to, .int .i64 Y.po, .int .i64 Y.x.v, .int .i64 Y.x.m, .int .u8 Y.x.b0, .int .u8 Y.x.b1, .int .u8 Y.x.b2, .int .u8 Y.x.i0, .int .u8 Y.x.i1, .int .u8 Y.x.i2, SY] ∧ Vb 28 wx q6 [.int .i64 Z.k, .int .i64 Z.pr, .int .i64 Z.to, .int .i64 Z.po, .int .i64 Z.x.v, .int .i64 Z.x.m, .int .u8 Z.x.b0, .int .u8 Z.x.b1, .int .u8 Z.x.b2, .int .u8 Z.x.i0, .int .u8 Z.x.i1, .int .u8 Z.x.i2, SZ]) ∧ Vb 35 wx w.heap.size [.int .i64 x.k, .int .i64 x.pr, .int .i64 x.to, .int .i64 x.po, .int .i64 x.x.v, .int .i64 x.x.m, .int .u8 x.x.b0, .int .u8 x.x.b1, .int .u8 x.x.b2, .int .u8 x.x.i0, .int .u8 x.x.i1, .int .u8 x.x.i2, .slice A1 n1 c1, .int .i64 y.k, .int .i64 y.pr, .int .i64 y.to, .int .i64 y.po, .int .i64 y.x.v, .int .i64 y.x.m, .int .u8 y.x.b0, .int .u8 y.x.b1, .int .u8 y.x.b2, .int .u8 y.x.i0, .int .u8 y.x.i1, .int .u8 y.x.i2, .slice A2 n2 c2, .int .i64 z.k, .int .i64 z.pr, .int .i64 z.to, .int .i64 z.po, .int .i64 z.x.v, .int .i64 z.x.m, .int .u8 z.x.b0, .int .u8 z.x.b1, .int .u8 z.x.b2, .int .u8 z.x.i0, .int .u8 z.x.i1, .int .u8 z.x.i2, .slice A3 n3 c3] ∧ Below w.heap.size w wx)
      case first => as_aux_lemma =>
        have c0 := h4.cell 0 rfl
        have c1 := h4.cell 1 rfl
        have e0 := h5.cell 0 rfl
        have e1 := h5.cell 1 rfl
        by_cases k1 : X.k = 1
        · have f1 : (X.k == 1) = true := by simpa using k1
          by_cases k2 : Y.k = 1
          · have f2 : (Y.k == 1) = true := by simpa using k2
            by_cases k3 : Y.pr < X.pr
            · exact absurd (HR.out k1 k2 k3) (by have := HM.out; omega)
            · have k4 : ¬ (X.pr > Y.pr) := k3
              clear k1 k2 k3
              go_wp2_with fail
              clear c0 c1 e0 e1
              go_meet
              case rel => exact ⟨rfl, ⟨h4, h5, h6⟩, ha, hB⟩
          · have f2 : (Y.k == 1) = false := by simpa using k2
            clear k1 k2
            go_wp2_with fail
            clear c0 c1 e0 e1
            go_meet
            case rel => exact ⟨rfl, ⟨h4, h5, h6⟩, ha, hB⟩
        · have f1 : (X.k == 1) = false := by simpa using k1
          clear k1
          go_wp2_with fail
          clear c0 c1 e0 e1
          go_meet
          case rel => exact ⟨rfl, ⟨h4, h5, h6⟩, ha, hB⟩
      obtain ⟨rfl, ⟨h4, h5, h6⟩, ha, hB⟩ := hcut
      go_upto_region 14 with fail
      have hd0 := (Below.refl (wc).heap.size wc).drew
      replace ha := ha.below hd0 ha.lt
      replace hB := hB.trans (hd0.mono hB.size)
      replace h4 := h4.below hd0 h4.lt
      replace h5 := h5.below hd0 h5.lt
      replace h6 := h6.below hd0 h6.lt
      obtain ⟨p, hpv⟩ : ∃ p, cmpR Y Z = p := ⟨_, rfl⟩
      have hqv := Kp.mk (show cmpR X Z = p by rw [HZ.out HM.out, hpv])
      by_cases hp : p ≤ 0
      · skip
        have hq0 : ¬ p > 0 := by omega
        replace hpv := Kp.mk hpv
        as_aux_lemma =>
          have hS0 : (fun W => Vb 28 W q4 [.int .i64 X.k, .int .i64 X.pr, .int .i64 X.to, .int .i64 X.po, .int .i64 X.x.v, .int .i64 X.x.m, .int .u8 X.x.b0, .int .u8 X.x.b1, .int .u8 X.x.b2, .int .u8 X.x.i0, .int .u8 X.x.i1, .int .u8 X.x.i2, SX] ∧ Vb 28 W q5 [.int .i64 Y.k, .int .i64 Y.pr, .int .i64 Y.to, .int .i64 Y.po, .int .i64 Y.x.v, .int .i64 Y.x.m, .int .u8 Y.x.b0, .int .u8 Y.x.b1, .int .u8 Y.x.b2, .int .u8 Y.x.i0, .int .u8 Y.x.i1, .int .u8 Y.x.i2, SY] ∧ Vb 28 W q6 [.int .i64 Z.k, .int .i64 Z.pr, .int .i64 Z.to, .int .i64 Z.po, .int .i64 Z.x.v, .int .i64 Z.x.m, .int .u8 Z.x.b0, .int .u8 Z.x.b1, .int .u8 Z.x.b2, .int .u8 Z.x.i0, .int .u8 Z.x.i1, .int .u8 Z.x.i2, SZ]) wc.drew := ⟨h4, h5, h6⟩
          refine wp_region_held_drew (S := fun W => Vb 28 W q4 [.int .i64 X.k, .int .i64 X.pr, .int .i64 X.to, .int .i64 X.po, .int .i64 X.x.v, .int .i64 X.x.m, .int .u8 X.x.b0, .int .u8 X.x.b1, .int .u8 X.x.b2, .int .u8 X.x.i0, .int .u8 X.x.i1, .int .u8 X.x.i2, SX] ∧ Vb 28 W q5 [.int .i64 Y.k, .int .i64 Y.pr, .int .i64 Y.to, .int .i64 Y.po, .int .i64 Y.x.v, .int .i64 Y.x.m, .int .u8 Y.x.b0, .int .u8 Y.x.b1, .int .u8 Y.x.b2, .int .u8 Y.x.i0, .int .u8 Y.x.i1, .int .u8 Y.x.i2, SY] ∧ Vb 28 W q6 [.int .i64 Z.k, .int .i64 Z.pr, .int .i64 Z.to, .int .i64 Z.po, .int .i64 Z.x.v, .int .i64 Z.x.m, .int .u8 Z.x.b0, .int .u8 Z.x.b1, .int .u8 Z.x.b2, .int .u8 Z.x.i0, .int .u8 Z.x.i1, .int .u8 Z.x.i2, SZ]) (by kernel_rfl) hS0 (fun _ => ?_)
          have hB0 := hB
          clear hB
          have hB : Below wc.drew.heap.size wc.drew wc.drew := Below.refl _ _
          generalize wc.drew = u0 at *
          refine takeD (i := 0) (v := .int .i64 0) (some 85) rfl rfl (by kernel_rfl) (by kernel_rfl) (by kernel_rfl) (fun _ _ _ h => h) (Or.inl ⟨by rfl, ?_⟩) hS0 ?_
          · rintro w' _
            go_simp
          try simp only [Act.put, List.setIfInBounds_toArray, List.set_cons_zero, List.set_cons_succ]
          refine takeD (i := 1) (v := .bool true) (some 86) rfl rfl (by kernel_rfl) (by kernel_rfl) (by kernel_rfl) (fun _ _ _ h => h) (Or.inl ⟨by rfl, ?_⟩) hS0 ?_
          · rintro w' _
            go_simp
          try simp only [Act.put, List.setIfInBounds_toArray, List.set_cons_zero, List.set_cons_succ]
          refine takeD (i := 2) (v := .bool true) (some 87) rfl rfl (by kernel_rfl) (by kernel_rfl) (by kernel_rfl) (fun _ _ _ h => h) (Or.inl ⟨by rfl, ?_⟩) hS0 ?_
          · rintro w' _
            go_simp
          try simp only [Act.put, List.setIfInBounds_toArray, List.set_cons_zero, List.set_cons_succ]
          refine takeD (i := 3) (v := .agg #[.int .i64 Y.k, .int .i64 Y.pr, .int .i64 Y.to, .int .i64 Y.po, .int .i64 Y.x.v, .int .i64 Y.x.m, .int .u8 Y.x.b0, .int .u8 Y.x.b1, .int .u8 Y.x.b2, .int .u8 Y.x.i0, .int .u8 Y.x.i1, .int .u8 Y.x.i2, SY]) (some 88) rfl rfl (by kernel_rfl) (by kernel_rfl) (by kernel_rfl) (fun _ _ _ h => h) (Or.inl ⟨by rfl, ?_⟩) hS0 ?_
          · rintro w' ⟨s0, s1, s2⟩
            obtain ⟨d0, d1, d2, d3, d4, d5, d6, d7, d8, d9, d10, d11, d12⟩ := s1.c13
            go_simp
          try simp only [Act.put, List.setIfInBounds_toArray, List.set_cons_zero, List.set_cons_succ]
          refine takeD (i := 4) (v := .agg #[.int .i64 Z.k, .int .i64 Z.pr, .int .i64 Z.to, .int .i64 Z.po, .int .i64 Z.x.v, .int .i64 Z.x.m, .int .u8 Z.x.b0, .int .u8 Z.x.b1, .int .u8 Z.x.b2, .int .u8 Z.x.i0, .int .u8 Z.x.i1, .int .u8 Z.x.i2, SZ]) (some 89) rfl rfl (by kernel_rfl) (by kernel_rfl) (by kernel_rfl) (fun _ _ _ h => h) (Or.inl ⟨by rfl, ?_⟩) hS0 ?_
          · rintro w' ⟨s0, s1, s2⟩
            obtain ⟨d0, d1, d2, d3, d4, d5, d6, d7, d8, d9, d10, d11, d12⟩ := s2.c13
            go_simp
          try simp only [Act.put, List.setIfInBounds_toArray, List.set_cons_zero, List.set_cons_succ]
          refine wpAnyH_ready (rs := [5]) (by kernel_rfl) (by simp) ?_
          refine AllReadyH.cons rfl (fun K hK => ?_) AllReadyH.nil
          try rw [if_pos (by rfl)]
          go_simp
          go_at_call 11
          refine (compare_any Y Z SY SZ _).mono ?_
          rintro e v1 ⟨rfl, hb1⟩
          have hB1 := hB.trans (hb1.mono hB.size)
          refine hK.out _ _ (⟨hS0.1.below hb1 hS0.1.lt, hS0.2.1.below hb1 hS0.2.1.lt, hS0.2.2.below hb1 hS0.2.2.lt⟩) (fun hS1 => ?_)
          clear hK K
          try simp only [Act.put, List.setIfInBounds_toArray, List.set_cons_zero, List.set_cons_succ]
          rw [hpv.out]
          refine takeD (i := 6) (v := .bool true) (some 91) rfl rfl (by kernel_rfl) (by kernel_rfl) (by kernel_rfl) (fun _ _ _ h => h) (Or.inl ⟨by rfl, ?_⟩) hS1 ?_
          · rintro w' _
            go_simp
          try simp only [Act.put, List.setIfInBounds_toArray, List.set_cons_zero, List.set_cons_succ]
          refine takeD (i := 7) (v := .bool true) (some 92) rfl rfl (by kernel_rfl) (by kernel_rfl) (by kernel_rfl) (fun _ _ _ h => h) (Or.inl ⟨by rfl, ?_⟩) hS1 ?_
          · rintro w' _
            go_simp
          try simp only [Act.put, List.setIfInBounds_toArray, List.set_cons_zero, List.set_cons_succ]
          refine takeD (i := 8) (v := .bool true) (some 93) rfl rfl (by kernel_rfl) (by kernel_rfl) (by kernel_rfl) (fun _ _ _ h => h) (Or.inl ⟨by rfl, ?_⟩) hS1 ?_
          · rintro w' _
            go_simp
          try simp only [Act.put, List.setIfInBounds_toArray, List.set_cons_zero, List.set_cons_succ]
          refine takeD (i := 9) (v := .agg #[.int .i64 X.k, .int .i64 X.pr, .int .i64 X.to, .int .i64 X.po, .int .i64 X.x.v, .int .i64 X.x.m, .int .u8 X.x.b0, .int .u8 X.x.b1, .int .u8 X.x.b2, .int .u8 X.x.i0, .int .u8 X.x.i1, .int .u8 X.x.i2, SX]) (some 94) rfl rfl (by kernel_rfl) (by kernel_rfl) (by kernel_rfl) (fun _ _ _ h => h) (Or.inl ⟨by rfl, ?_⟩) hS1 ?_
          · rintro w' ⟨s0, s1, s2⟩
            obtain ⟨d0, d1, d2, d3, d4, d5, d6, d7, d8, d9, d10, d11, d12⟩ := s0.c13
            go_simp
          try simp only [Act.put, List.setIfInBounds_toArray, List.set_cons_zero, List.set_cons_succ]
          refine takeD (i := 10) (v := .agg #[.int .i64 Z.k, .int .i64 Z.pr, .int .i64 Z.to, .int .i64 Z.po, .int .i64 Z.x.v, .int .i64 Z.x.m, .int .u8 Z.x.b0, .int .u8 Z.x.b1, .int .u8 Z.x.b2, .int .u8 Z.x.i0, .int .u8 Z.x.i1, .int .u8 Z.x.i2, SZ]) (some 95) rfl rfl (by kernel_rfl) (by kernel_rfl) (by kernel_rfl) (fun _ _ _ h => h) (Or.inl ⟨by rfl, ?_⟩) hS1 ?_
          · rintro w' ⟨s0, s1, s2⟩
            obtain ⟨d0, d1, d2, d3, d4, d5, d6, d7, d8, d9, d10, d11, d12⟩ := s2.c13
            go_simp
          try simp only [Act.put, List.setIfInBounds_toArray, List.set_cons_zero, List.set_cons_succ]
          refine wpAnyH_ready (rs := [11]) (by kernel_rfl) (by simp) ?_
          refine AllReadyH.cons rfl (fun K hK => ?_) AllReadyH.nil
          try rw [if_pos (by rfl)]
          go_simp
          go_at_call 11
          refine (compare_any X Z SX SZ _).mono ?_
          rintro e v2 ⟨rfl, hb2⟩
          have hB2 := hB1.trans (hb2.mono hB1.size)
          refine hK.out _ _ (⟨hS1.1.below hb2 hS1.1.lt, hS1.2.1.below hb2 hS1.2.1.lt, hS1.2.2.below hb2 hS1.2.2.lt⟩) (fun hS2 => ?_)
          clear hK K
          try simp only [Act.put, List.setIfInBounds_toArray, List.set_cons_zero, List.set_cons_succ]
          rw [hqv.out]
          refine takeD (i := 12) (v := .bool false) (some 97) rfl rfl (by kernel_rfl) (by kernel_rfl) (by kernel_rfl) (fun _ _ _ h => h) (Or.inl ⟨by rfl, ?_⟩) hS2 ?_
          · rintro w' _
            go_simp
          try simp only [Act.put, List.setIfInBounds_toArray, List.set_cons_zero, List.set_cons_succ]
          refine takeD (i := 13) (v := .bool false) (some 98) rfl rfl (by kernel_rfl) (by kernel_rfl) (by kernel_rfl) (fun _ _ _ h => h) (Or.inl ⟨by rfl, ?_⟩) hS2 ?_
          · rintro w' _
            go_simp
          try simp only [Act.put, List.setIfInBounds_toArray, List.set_cons_zero, List.set_cons_succ]
          refine takeD (i := 14) (v := .bool false) (some 99) rfl rfl (by kernel_rfl) (by kernel_rfl) (by kernel_rfl) (fun _ _ _ h => h) (Or.inl ⟨by rfl, ?_⟩) hS2 ?_
          · rintro w' _
            go_simp
          try simp only [Act.put, List.setIfInBounds_toArray, List.set_cons_zero, List.set_cons_succ]
          refine takeD (i := 15) (v := .int .i64 0) (some 100) rfl rfl (by kernel_rfl) (by kernel_rfl) (by kernel_rfl) (fun _ _ _ h => h) (Or.inl ⟨by rfl, ?_⟩) hS2 ?_
          · rintro w' _
            go_simp
          try simp only [Act.put, List.setIfInBounds_toArray, List.set_cons_zero, List.set_cons_succ]
          refine takeD (i := 16) (v := .bool true) (some 101) rfl rfl (by kernel_rfl) (by kernel_rfl) (by kernel_rfl) (fun _ _ _ h => h) (Or.inl ⟨by rfl, ?_⟩) hS2 ?_
          · rintro w' _
            go_simp
          try simp only [Act.put, List.setIfInBounds_toArray, List.set_cons_zero, List.set_cons_succ]
          refine takeD (i := 17) (v := .bool true) (some 102) rfl rfl (by kernel_rfl) (by kernel_rfl) (by kernel_rfl) (fun _ _ _ h => h) (Or.inl ⟨by rfl, ?_⟩) hS2 ?_
          · rintro w' _
            go_simp
          try simp only [Act.put, List.setIfInBounds_toArray, List.set_cons_zero, List.set_cons_succ]
          refine takeD (i := 18) (v := .agg #[.int .i64 X.k, .int .i64 X.pr, .int .i64 X.to, .int .i64 X.po, .int .i64 X.x.v, .int .i64 X.x.m, .int .u8 X.x.b0, .int .u8 X.x.b1, .int .u8 X.x.b2, .int .u8 X.x.i0, .int .u8 X.x.i1, .int .u8 X.x.i2, SX]) (some 103) rfl rfl (by kernel_rfl) (by kernel_rfl) (by kernel_rfl) (fun _ _ _ h => h) (Or.inl ⟨by rfl, ?_⟩) hS2 ?_
          · rintro w' ⟨s0, s1, s2⟩
            obtain ⟨d0, d1, d2, d3, d4, d5, d6, d7, d8, d9, d10, d11, d12⟩ := s0.c13
            go_simp
          try simp only [Act.put, List.setIfInBounds_toArray, List.set_cons_zero, List.set_cons_succ]
          refine takeD (i := 19) (v := .agg #[.int .i64 Z.k, .int .i64 Z.pr, .int .i64 Z.to, .int .i64 Z.po, .int .i64 Z.x.v, .int .i64 Z.x.m, .int .u8 Z.x.b0, .int .u8 Z.x.b1, .int .u8 Z.x.b2, .int .u8 Z.x.i0, .int .u8 Z.x.i1, .int .u8 Z.x.i2, SZ]) (some 104) rfl rfl (by kernel_rfl) (by kernel_rfl) (by kernel_rfl) (fun _ _ _ h => h) (Or.inl ⟨by rfl, ?_⟩) hS2 ?_
          · rintro w' ⟨s0, s1, s2⟩
            obtain ⟨d0, d1, d2, d3, d4, d5, d6, d7, d8, d9, d10, d11, d12⟩ := s2.c13
            go_simp
          try simp only [Act.put, List.setIfInBounds_toArray, List.set_cons_zero, List.set_cons_succ]
          refine takeD (i := 21) (v := .agg #[.int .i64 Y.k, .int .i64 Y.pr, .int .i64 Y.to, .int .i64 Y.po, .int .i64 Y.x.v, .int .i64 Y.x.m, .int .u8 Y.x.b0, .int .u8 Y.x.b1, .int .u8 Y.x.b2, .int .u8 Y.x.i0, .int .u8 Y.x.i1, .int .u8 Y.x.i2, SY]) (some 106) rfl rfl (by kernel_rfl) (by kernel_rfl) (by kernel_rfl) (fun _ _ _ h => h) (Or.inl ⟨by rfl, ?_⟩) hS2 ?_
          · rintro w' ⟨s0, s1, s2⟩
            obtain ⟨d0, d1, d2, d3, d4, d5, d6, d7, d8, d9, d10, d11, d12⟩ := s1.c13
            go_simp
          try simp only [Act.put, List.setIfInBounds_toArray, List.set_cons_zero, List.set_cons_succ]
          refine takeD (i := 22) (v := .agg #[.int .i64 Z.k, .int .i64 Z.pr, .int .i64 Z.to, .int .i64 Z.po, .int .i64 Z.x.v, .int .i64 Z.x.m, .int .u8 Z.x.b0, .int .u8 Z.x.b1, .int .u8 Z.x.b2, .int .u8 Z.x.i0, .int .u8 Z.x.i1, .int .u8 Z.x.i2, SZ]) (some 107) rfl rfl (by kernel_rfl) (by kernel_rfl) (by kernel_rfl) (fun _ _ _ h => h) (Or.inl ⟨by rfl, ?_⟩) hS2 ?_
          · rintro w' ⟨s0, s1, s2⟩
            obtain ⟨d0, d1, d2, d3, d4, d5, d6, d7, d8, d9, d10, d11, d12⟩ := s2.c13
            go_simp
          try simp only [Act.put, List.setIfInBounds_toArray, List.set_cons_zero, List.set_cons_succ]
          refine wpAnyH_ready (rs := [20]) (by kernel_rfl) (by simp) ?_
          refine AllReadyH.cons rfl (fun K hK => ?_) AllReadyH.nil
          try rw [if_pos (by rfl)]
          go_simp
          go_at_call 11
          refine (compare_any X Z SX SZ _).mono ?_
          rintro e v3 ⟨rfl, hb3⟩
          have hB3 := hB2.trans (hb3.mono hB2.size)
          refine hK.out _ _ (⟨hS2.1.below hb3 hS2.1.lt, hS2.2.1.below hb3 hS2.2.1.lt, hS2.2.2.below hb3 hS2.2.2.lt⟩) (fun hS3 => ?_)
          clear hK K
          try simp only [Act.put, List.setIfInBounds_toArray, List.set_cons_zero, List.set_cons_succ]
          rw [hqv.out]
          refine wpAnyH_ready (rs := [23]) (by kernel_rfl) (by simp) ?_
          refine AllReadyH.cons rfl (fun K hK => ?_) AllReadyH.nil
          try rw [if_pos (by rfl)]
          go_simp
          go_at_call 11
          refine (compare_any Y Z SY SZ _).mono ?_
          rintro e v4 ⟨rfl, hb4⟩
          have hB4 := hB3.trans (hb4.mono hB3.size)
          refine hK.out _ _ (⟨hS3.1.below hb4 hS3.1.lt, hS3.2.1.below hb4 hS3.2.1.lt, hS3.2.2.below hb4 hS3.2.2.lt⟩) (fun hS4 => ?_)
          clear hK K
          try simp only [Act.put, List.setIfInBounds_toArray, List.set_cons_zero, List.set_cons_succ]
          rw [hpv.out]
          refine takeD (i := 24) (v := .bool false) (some 109) rfl rfl (by kernel_rfl) (by kernel_rfl) (by kernel_rfl) (fun _ _ _ h => h) (Or.inl ⟨by rfl, ?_⟩) hS4 ?_
          · rintro w' _
            have hfact0 := (show (p != p) = false by simp)
            go_simp
          try simp only [Act.put, List.setIfInBounds_toArray, List.set_cons_zero, List.set_cons_succ]
          refine takeD (i := 25) (v := .bool false) (some 110) rfl rfl (by kernel_rfl) (by kernel_rfl) (by kernel_rfl) (fun _ _ _ h => h) (Or.inl ⟨by rfl, ?_⟩) hS4 ?_
          · rintro w' _
            go_simp
          try simp only [Act.put, List.setIfInBounds_toArray, List.set_cons_zero, List.set_cons_succ]
          refine takeD (i := 26) (v := .bool false) (some 111) rfl rfl (by kernel_rfl) (by kernel_rfl) (by kernel_rfl) (fun _ _ _ h => h) (Or.inl ⟨by rfl, ?_⟩) hS4 ?_
          · rintro w' _
            go_simp
          try simp only [Act.put, List.setIfInBounds_toArray, List.set_cons_zero, List.set_cons_succ]
          refine wpAnyH_done (by kernel_rfl) ?_ _
          go_wp2_with fail
          go_roundw
          case rel => exact ⟨k + 1, by omega, by go_num, ha.below hB4 ha.lt, hB0.trans (hB4.mono hB0.size)⟩
          case measure => simp [intOf]; omega
      · replace hp : ¬ p ≤ 0 := hp
        replace hpv := Kp.mk hpv
        as_aux_lemma =>
          have hS0 : (fun W => Vb 28 W q4 [.int .i64 X.k, .int .i64 X.pr, .int .i64 X.to, .int .i64 X.po, .int .i64 X.x.v, .int .i64 X.x.m, .int .u8 X.x.b0, .int .u8 X.x.b1, .int .u8 X.x.b2, .int .u8 X.x.i0, .int .u8 X.x.i1, .int .u8 X.x.i2, SX] ∧ Vb 28 W q5 [.int .i64 Y.k, .int .i64 Y.pr, .int .i64 Y.to, .int .i64 Y.po, .int .i64 Y.x.v, .int .i64 Y.x.m, .int .u8 Y.x.b0, .int .u8 Y.x.b1, .int .u8 Y.x.b2, .int .u8 Y.x.i0, .int .u8 Y.x.i1, .int .u8 Y.x.i2, SY] ∧ Vb 28 W q6 [.int .i64 Z.k, .int .i64 Z.pr, .int .i64 Z.to, .int .i64 Z.po, .int .i64 Z.x.v, .int .i64 Z.x.m, .int .u8 Z.x.b0, .int .u8 Z.x.b1, .int .u8 Z.x.b2, .int .u8 Z.x.i0, .int .u8 Z.x.i1, .int .u8 Z.x.i2, SZ]) wc.drew := ⟨h4, h5, h6⟩
          refine wp_region_held_drew (S := fun W => Vb 28 W q4 [.int .i64 X.k, .int .i64 X.pr, .int .i64 X.to, .int .i64 X.po, .int .i64 X.x.v, .int .i64 X.x.m, .int .u8 X.x.b0, .int .u8 X.x.b1, .int .u8 X.x.b2, .int .u8 X.x.i0, .int .u8 X.x.i1, .int .u8 X.x.i2, SX] ∧ Vb 28 W q5 [.int .i64 Y.k, .int .i64 Y.pr, .int .i64 Y.to, .int .i64 Y.po, .int .i64 Y.x.v, .int .i64 Y.x.m, .int .u8 Y.x.b0, .int .u8 Y.x.b1, .int .u8 Y.x.b2, .int .u8 Y.x.i0, .int .u8 Y.x.i1, .int .u8 Y.x.i2, SY] ∧ Vb 28 W q6 [.int .i64 Z.k, .int .i64 Z.pr, .int .i64 Z.to, .int .i64 Z.po, .int .i64 Z.x.v, .int .i64 Z.x.m, .int .u8 Z.x.b0, .int .u8 Z.x.b1, .int .u8 Z.x.b2, .int .u8 Z.x.i0, .int .u8 Z.x.i1, .int .u8 Z.x.i2, SZ]) (by kernel_rfl) hS0 (fun _ => ?_)
          have hB0 := hB
          clear hB
          have hB : Below wc.drew.heap.size wc.drew wc.drew := Below.refl _ _
          generalize wc.drew = u0 at *
          refine takeD (i := 0) (v := .int .i64 0) (some 85) rfl rfl (by kernel_rfl) (by kernel_rfl) (by kernel_rfl) (fun _ _ _ h => h) (Or.inl ⟨by rfl, ?_⟩) hS0 ?_
          · rintro w' _
            go_simp
          try simp only [Act.put, List.setIfInBounds_toArray, List.set_cons_zero, List.set_cons_succ]
          refine takeD (i := 1) (v := .bool true) (some 86) rfl rfl (by kernel_rfl) (by kernel_rfl) (by kernel_rfl) (fun _ _ _ h => h) (Or.inl ⟨by rfl, ?_⟩) hS0 ?_
          · rintro w' _
            go_simp
          try simp only [Act.put, List.setIfInBounds_toArray, List.set_cons_zero, List.set_cons_succ]
          refine takeD (i := 2) (v := .bool true) (some 87) rfl rfl (by kernel_rfl) (by kernel_rfl) (by kernel_rfl) (fun _ _ _ h => h) (Or.inl ⟨by rfl, ?_⟩) hS0 ?_
          · rintro w' _
            go_simp
          try simp only [Act.put, List.setIfInBounds_toArray, List.set_cons_zero, List.set_cons_succ]
          refine takeD (i := 3) (v := .agg #[.int .i64 Y.k, .int .i64 Y.pr, .int .i64 Y.to, .int .i64 Y.po, .int .i64 Y.x.v, .int .i64 Y.x.m, .int .u8 Y.x.b0, .int .u8 Y.x.b1, .int .u8 Y.x.b2, .int .u8 Y.x.i0, .int .u8 Y.x.i1, .int .u8 Y.x.i2, SY]) (some 88) rfl rfl (by kernel_rfl) (by kernel_rfl) (by kernel_rfl) (fun _ _ _ h => h) (Or.inl ⟨by rfl, ?_⟩) hS0 ?_
          · rintro w' ⟨s0, s1, s2⟩
            obtain ⟨d0, d1, d2, d3, d4, d5, d6, d7, d8, d9, d10, d11, d12⟩ := s1.c13
            go_simp
          try simp only [Act.put, List.setIfInBounds_toArray, List.set_cons_zero, List.set_cons_succ]
          refine takeD (i := 4) (v := .agg #[.int .i64 Z.k, .int .i64 Z.pr, .int .i64 Z.to, .int .i64 Z.po, .int .i64 Z.x.v, .int .i64 Z.x.m, .int .u8 Z.x.b0, .int .u8 Z.x.b1, .int .u8 Z.x.b2, .int .u8 Z.x.i0, .int .u8 Z.x.i1, .int .u8 Z.x.i2, SZ]) (some 89) rfl rfl (by kernel_rfl) (by kernel_rfl) (by kernel_rfl) (fun _ _ _ h => h) (Or.inl ⟨by rfl, ?_⟩) hS0 ?_
          · rintro w' ⟨s0, s1, s2⟩
            obtain ⟨d0, d1, d2, d3, d4, d5, d6, d7, d8, d9, d10, d11, d12⟩ := s2.c13
            go_simp
          try simp only [Act.put, List.setIfInBounds_toArray, List.set_cons_zero, List.set_cons_succ]
          refine wpAnyH_ready (rs := [5]) (by kernel_rfl) (by simp) ?_
          refine AllReadyH.cons rfl (fun K hK => ?_) AllReadyH.nil
          try rw [if_pos (by rfl)]
          go_simp
          go_at_call 11
          refine (compare_any Y Z SY SZ _).mono ?_
          rintro e v1 ⟨rfl, hb1⟩
          have hB1 := hB.trans (hb1.mono hB.size)
          refine hK.out _ _ (⟨hS0.1.below hb1 hS0.1.lt, hS0.2.1.below hb1 hS0.2.1.lt, hS0.2.2.below hb1 hS0.2.2.lt⟩) (fun hS1 => ?_)
          clear hK K
          try simp only [Act.put, List.setIfInBounds_toArray, List.set_cons_zero, List.set_cons_succ]
          rw [hpv.out]
          refine takeD (i := 6) (v := .bool false) (some 91) rfl rfl (by kernel_rfl) (by kernel_rfl) (by kernel_rfl) (fun _ _ _ h => h) (Or.inl ⟨by rfl, ?_⟩) hS1 ?_
          · rintro w' _
            go_simp
          try simp only [Act.put, List.setIfInBounds_toArray, List.set_cons_zero, List.set_cons_succ]
          refine takeD (i := 7) (v := .bool false) (some 92) rfl rfl (by kernel_rfl) (by kernel_rfl) (by kernel_rfl) (fun _ _ _ h => h) (Or.inl ⟨by rfl, ?_⟩) hS1 ?_
          · rintro w' _
            go_simp
          try simp only [Act.put, List.setIfInBounds_toArray, List.set_cons_zero, List.set_cons_succ]
          refine takeD (i := 8) (v := .bool false) (some 93) rfl rfl (by kernel_rfl) (by kernel_rfl) (by kernel_rfl) (fun _ _ _ h => h) (Or.inl ⟨by rfl, ?_⟩) hS1 ?_
          · rintro w' _
            go_simp
          try simp only [Act.put, List.setIfInBounds_toArray, List.set_cons_zero, List.set_cons_succ]
          refine takeD (i := 9) (v := undef) (some 94) rfl rfl (by kernel_rfl) (by kernel_rfl) (by kernel_rfl) (fun _ _ _ h => h) (Or.inr ⟨by rfl, rfl⟩) hS1 ?_
          try simp only [Act.put, List.setIfInBounds_toArray, List.set_cons_zero, List.set_cons_succ]
          refine takeD (i := 10) (v := undef) (some 95) rfl rfl (by kernel_rfl) (by kernel_rfl) (by kernel_rfl) (fun _ _ _ h => h) (Or.inr ⟨by rfl, rfl⟩) hS1 ?_
          try simp only [Act.put, List.setIfInBounds_toArray, List.set_cons_zero, List.set_cons_succ]
          refine takeD (i := 11) (v := undef) (some 96) rfl rfl (by kernel_rfl) (by kernel_rfl) (by kernel_rfl) (fun _ _ _ h => h) (Or.inr ⟨by rfl, rfl⟩) hS1 ?_
          try simp only [Act.put, List.setIfInBounds_toArray, List.set_cons_zero, List.set_cons_succ]
          refine takeD (i := 12) (v := undef) (some 97) rfl rfl (by kernel_rfl) (by kernel_rfl) (by kernel_rfl) (fun _ _ _ h => h) (Or.inr ⟨by rfl, rfl⟩) hS1 ?_
          try simp only [Act.put, List.setIfInBounds_toArray, List.set_cons_zero, List.set_cons_succ]
          refine takeD (i := 13) (v := .bool false) (some 98) rfl rfl (by kernel_rfl) (by kernel_rfl) (by kernel_rfl) (fun _ _ _ h => h) (Or.inl ⟨by rfl, ?_⟩) hS1 ?_
          · rintro w' _
            go_simp
          try simp only [Act.put, List.setIfInBounds_toArray, List.set_cons_zero, List.set_cons_succ]
          refine takeD (i := 14) (v := .bool false) (some 99) rfl rfl (by kernel_rfl) (by kernel_rfl) (by kernel_rfl) (fun _ _ _ h => h) (Or.inl ⟨by rfl, ?_⟩) hS1 ?_
          · rintro w' _
            go_simp
          try simp only [Act.put, List.setIfInBounds_toArray, List.set_cons_zero, List.set_cons_succ]
          refine takeD (i := 15) (v := .int .i64 0) (some 100) rfl rfl (by kernel_rfl) (by kernel_rfl) (by kernel_rfl) (fun _ _ _ h => h) (Or.inl ⟨by rfl, ?_⟩) hS1 ?_
          · rintro w' _
            go_simp
          try simp only [Act.put, List.setIfInBounds_toArray, List.set_cons_zero, List.set_cons_succ]
          refine takeD (i := 16) (v := .bool true) (some 101) rfl rfl (by kernel_rfl) (by kernel_rfl) (by kernel_rfl) (fun _ _ _ h => h) (Or.inl ⟨by rfl, ?_⟩) hS1 ?_
          · rintro w' _
            go_simp
          try simp only [Act.put, List.setIfInBounds_toArray, List.set_cons_zero, List.set_cons_succ]
          refine takeD (i := 17) (v := .bool true) (some 102) rfl rfl (by kernel_rfl) (by kernel_rfl) (by kernel_rfl) (fun _ _ _ h => h) (Or.inl ⟨by rfl, ?_⟩) hS1 ?_
          · rintro w' _
            go_simp
          try simp only [Act.put, List.setIfInBounds_toArray, List.set_cons_zero, List.set_cons_succ]
          refine takeD (i := 18) (v := .agg #[.int .i64 X.k, .int .i64 X.pr, .int .i64 X.to, .int .i64 X.po, .int .i64 X.x.v, .int .i64 X.x.m, .int .u8 X.x.b0, .int .u8 X.x.b1, .int .u8 X.x.b2, .int .u8 X.x.i0, .int .u8 X.x.i1, .int .u8 X.x.i2, SX]) (some 103) rfl rfl (by kernel_rfl) (by kernel_rfl) (by kernel_rfl) (fun _ _ _ h => h) (Or.inl ⟨by rfl, ?_⟩) hS1 ?_
          · rintro w' ⟨s0, s1, s2⟩
            obtain ⟨d0, d1, d2, d3, d4, d5, d6, d7, d8, d9, d10, d11, d12⟩ := s0.c13
            go_simp
          try simp only [Act.put, List.setIfInBounds_toArray, List.set_cons_zero, List.set_cons_succ]
          refine takeD (i := 19) (v := .agg #[.int .i64 Z.k, .int .i64 Z.pr, .int .i64 Z.to, .int .i64 Z.po, .int .i64 Z.x.v, .int .i64 Z.x.m, .int .u8 Z.x.b0, .int .u8 Z.x.b1, .int .u8 Z.x.b2, .int .u8 Z.x.i0, .int .u8 Z.x.i1, .int .u8 Z.x.i2, SZ]) (some 104) rfl rfl (by kernel_rfl) (by kernel_rfl) (by kernel_rfl) (fun _ _ _ h => h) (Or.inl ⟨by rfl, ?_⟩) hS1 ?_
          · rintro w' ⟨s0, s1, s2⟩
            obtain ⟨d0, d1, d2, d3, d4, d5, d6, d7, d8, d9, d10, d11, d12⟩ := s2.c13
            go_simp
          try simp only [Act.put, List.setIfInBounds_toArray, List.set_cons_zero, List.set_cons_succ]
          refine takeD (i := 21) (v := .agg #[.int .i64 Y.k, .int .i64 Y.pr, .int .i64 Y.to, .int .i64 Y.po, .int .i64 Y.x.v, .int .i64 Y.x.m, .int .u8 Y.x.b0, .int .u8 Y.x.b1, .int .u8 Y.x.b2, .int .u8 Y.x.i0, .int .u8 Y.x.i1, .int .u8 Y.x.i2, SY]) (some 106) rfl rfl (by kernel_rfl) (by kernel_rfl) (by kernel_rfl) (fun _ _ _ h => h) (Or.inl ⟨by rfl, ?_⟩) hS1 ?_
          · rintro w' ⟨s0, s1, s2⟩
            obtain ⟨d0, d1, d2, d3, d4, d5, d6, d7, d8, d9, d10, d11, d12⟩ := s1.c13
            go_simp
          try simp only [Act.put, List.setIfInBounds_toArray, List.set_cons_zero, List.set_cons_succ]
          refine takeD (i := 22) (v := .agg #[.int .i64 Z.k, .int .i64 Z.pr, .int .i64 Z.to, .int .i64 Z.po, .int .i64 Z.x.v, .int .i64 Z.x.m, .int .u8 Z.x.b0, .int .u8 Z.x.b1, .int .u8 Z.x.b2, .int .u8 Z.x.i0, .int .u8 Z.x.i1, .int .u8 Z.x.i2, SZ]) (some 107) rfl rfl (by kernel_rfl) (by kernel_rfl) (by kernel_rfl) (fun _ _ _ h => h) (Or.inl ⟨by rfl, ?_⟩) hS1 ?_
          · rintro w' ⟨s0, s1, s2⟩
            obtain ⟨d0, d1, d2, d3, d4, d5, d6, d7, d8, d9, d10, d11, d12⟩ := s2.c13
            go_simp
          try simp only [Act.put, List.setIfInBounds_toArray, List.set_cons_zero, List.set_cons_succ]
          refine wpAnyH_ready (rs := [20]) (by kernel_rfl) (by simp) ?_
          refine AllReadyH.cons rfl (fun K hK => ?_) AllReadyH.nil
          try rw [if_pos (by rfl)]
          go_simp
          go_at_call 11
          refine (compare_any X Z SX SZ _).mono ?_
          rintro e v2 ⟨rfl, hb2⟩
          have hB2 := hB1.trans (hb2.mono hB1.size)
          refine hK.out _ _ (⟨hS1.1.below hb2 hS1.1.lt, hS1.2.1.below hb2 hS1.2.1.lt, hS1.2.2.below hb2 hS1.2.2.lt⟩) (fun hS2 => ?_)
          clear hK K
          try simp only [Act.put, List.setIfInBounds_toArray, List.set_cons_zero, List.set_cons_succ]
          rw [hqv.out]
          refine wpAnyH_ready (rs := [23]) (by kernel_rfl) (by simp) ?_
          refine AllReadyH.cons rfl (fun K hK => ?_) AllReadyH.nil
          try rw [if_pos (by rfl)]
          go_simp
          go_at_call 11
          refine (compare_any Y Z SY SZ _).mono ?_
          rintro e v3 ⟨rfl, hb3⟩
          have hB3 := hB2.trans (hb3.mono hB2.size)
          refine hK.out _ _ (⟨hS2.1.below hb3 hS2.1.lt, hS2.2.1.below hb3 hS2.2.1.lt, hS2.2.2.below hb3 hS2.2.2.lt⟩) (fun hS3 => ?_)
          clear hK K
          try simp only [Act.put, List.setIfInBounds_toArray, List.set_cons_zero, List.set_cons_succ]
          rw [hpv.out]
          refine takeD (i := 24) (v := .bool false) (some 109) rfl rfl (by kernel_rfl) (by kernel_rfl) (by kernel_rfl) (fun _ _ _ h => h) (Or.inl ⟨by rfl, ?_⟩) hS3 ?_
          · rintro w' _
            have hfact0 := (show (p != p) = false by simp)
            go_simp
          try simp only [Act.put, List.setIfInBounds_toArray, List.set_cons_zero, List.set_cons_succ]
          refine takeD (i := 25) (v := .bool false) (some 110) rfl rfl (by kernel_rfl) (by kernel_rfl) (by kernel_rfl) (fun _ _ _ h => h) (Or.inl ⟨by rfl, ?_⟩) hS3 ?_
          · rintro w' _
            go_simp
          try simp only [Act.put, List.setIfInBounds_toArray, List.set_cons_zero, List.set_cons_succ]
          refine takeD (i := 26) (v := .bool false) (some 111) rfl rfl (by kernel_rfl) (by kernel_rfl) (by kernel_rfl) (fun _ _ _ h => h) (Or.inl ⟨by rfl, ?_⟩) hS3 ?_
          · rintro w' _
            go_simp
          try simp only [Act.put, List.setIfInBounds_toArray, List.set_cons_zero, List.set_cons_succ]
          refine wpAnyH_done (by kernel_rfl) ?_ _
          go_wp2_with fail
          go_roundw
          case rel => exact ⟨k + 1, by omega, by go_num, ha.below hB3 ha.lt, hB0.trans (hB3.mono hB0.size)⟩
          case measure => simp [intOf]; omega
    · have HM := Kp.mk hm
      rw [hm]
      clear hm
      have hn := Kp.mk (show cmpR Y X = (-1) by have := HN.out; have := HM.out; omega)
      go_cut [49] from 27 to 111 (fun v wx => v = .bool false ∧ (Vb 28 wx q4 [.int .i64 X.k, .int .i64 X.pr, .int .i64 X.to, .int .i64 X.po, .int .i64 X.x.v, .int .i64 X.x.m, .int .u8 X.x.b0, .int .u8 X.x.b1, .int .u8 X.x.b2, .int .u8 X.x.i0, .int .u8 X.x.i1, .int .u8 X.x.i2, SX] ∧ Vb 28 wx q5 [.int .i64 Y.k, .int .i64 Y.pr, .int .i64 Y.to, .int .i64 Y.po, .int .i64 Y.x.v, .int .i64 Y.x.m, .int .u8 Y.x.b0, .int .u8 Y.x.b1, .int .u8 Y.x.b2, .int .u8 Y.x.i0, .int .u8 Y.x.i1, .int .u8 Y.x.i2, SY] ∧ Vb 28 wx q6 [.int .i64 Z.k, .int .i64 Z.pr, .int .i64 Z.to, .int .i64 Z.po, .int .i64 Z.x.v, .int .i64 Z.x.m, .int .u8 Z.x.b0, .int .u8 Z.x.b1, .int .u8 Z.x.b2, .int .u8 Z.x.i0, .int .u8 Z.x.i1, .int .u8 Z.x.i2, SZ]) ∧ Vb 35 wx w.heap.size [.int .i64 x.k, .int .i64 x.pr, .int .i64 x.to, .int .i64 x.po, .int .i64 x.x.v, .int .i64 x.x.m, .int .u8 x.x.b0, .int .u8 x.x.b1, .int .u8 x.x.b2, .int .u8 x.x.i0, .int .u8 x.x.i1, .int .u8 x.x.i2, .slice A1 n1 c1, .int .i64 y.k, .int .i64 y.pr, .int .i64 y.to, .int .i64 y.po, .int .i64 y.x.v, .int .i64 y.x.m, .int .u8 y.x.b0, .int .u8 y.x.b1, .int .u8 y.x.b2, .int .u8 y.x.i0, .int .u8 y.x.i1, .int .u8 y.x.i2, .slice A2 n2 c2, .int .i64 z.k, .int .i64 z.pr, .int .i64 z.to, .int .i64 z.po, .int .i64 z.x.v, .int .i64 z.x.m, .int .u8 z.x.b0, .int .u8 z.x.b1, .int .u8 z.x.b2, .int .u8 z.x.i0, .int .u8 z.x.i1, .int .u8 z.x.i2, .slice A3 n3 c3] ∧ Below w.heap.size w wx)
      case first => as_aux_lemma =>
        go_wp2_with (first | refine wpList_load_wantR (vs := [.int .i64 Y.k, .int .i64 Y.pr, .int .i64 Y.to, .int .i64 Y.po, .int .i64 Y.x.v, .int .i64 Y.x.m, .int .u8 Y.x.b0, .int .u8 Y.x.b1, .int .u8 Y.x.b2, .int .u8 Y.x.i0, .int .u8 Y.x.i1, .int .u8 Y.x.i2, SY]) (by rfl) (.tmp 5) rfl rfl h5 rfl agg_rule ?_ | refine wpList_load_wantR (vs := [.int .i64 X.k, .int .i64 X.pr, .int .i64 X.to, .int .i64 X.po, .int .i64 X.x.v, .int .i64 X.x.m, .int .u8 X.x.b0, .int .u8 X.x.b1, .int .u8 X.x.b2, .int .u8 X.x.i0, .int .u8 X.x.i1, .int .u8 X.x.i2, SX]) (by rfl) (.tmp 4) rfl rfl h4 rfl agg_rule ?_)
        refine (compare_any Y X SY SX _).mono ?_
        rintro e w4 ⟨rfl, hb⟩
        rw [hn.out]
        replace h4 := h4.below hb h4.lt
        replace h5 := h5.below hb h5.lt
        replace h6 := h6.below hb h6.lt
        replace ha := ha.below hb ha.lt
        replace hB := hB.trans (hb.mono hB.size)
        clear hb
        go_wp2_with (first | refine wpList_load_wantR (vs := [.int .i64 X.k, .int .i64 X.pr, .int .i64 X.to, .int .i64 X.po, .int .i64 X.x.v, .int .i64 X.x.m, .int .u8 X.x.b0, .int .u8 X.x.b1, .int .u8 X.x.b2, .int .u8 X.x.i0, .int .u8 X.x.i1, .int .u8 X.x.i2, SX]) (by rfl) (.tmp 4) rfl rfl h4 rfl agg_rule ?_)
        refine (compare_any X X SX SX _).mono ?_
        rintro e w5 ⟨rfl, hb⟩
        rw [HS.out]
        replace h4 := h4.below hb h4.lt
        replace h5 := h5.below hb h5.lt
        replace h6 := h6.below hb h6.lt
        replace ha := ha.below hb ha.lt
        replace hB := hB.trans (hb.mono hB.size)
        clear hb
        go_wp2_with fail
        go_meet
        case rel => exact ⟨rfl, ⟨h4, h5, h6⟩, ha, hB⟩
      obtain ⟨rfl, ⟨h4, h5, h6⟩, ha, hB⟩ := hcut
      have hpl := Kp.mk (show placeB X Y = false by rw [← HP.out, HM.out]; rfl)
      go_upto_region 10 with fail
      go_cut [65] from 50 to 111 (fun v wx => v = .bool false ∧ (Vb 28 wx q4 [.int .i64 X.k, .int .i64 X.pr, .int .i64 X.to, .int .i64 X.po, .int .i64 X.x.v, .int .i64 X.x.m, .int .u8 X.x.b0, .int .u8 X.x.b1, .int .u8 X.x.b2, .int .u8 X.x.i0, .int .u8 X.x.i1, .int .u8 X.x.i2, SX] ∧ Vb 28 wx q5 [.int .i64 Y.k, .int .i64 Y.pr, .int .i64 Y.to, .int .i64 Y.po, .int .i64 Y.x.v, .int .i64 Y.x.m, .int .u8 Y.x.b0, .int .u8 Y.x.b1, .int .u8 Y.x.b2, .int .u8 Y.x.i0, .int .u8 Y.x.i1, .int .u8 Y.x.i2, SY] ∧ Vb 28 wx q6 [.int .i64 Z.k, .int .i64 Z.pr, .int .i64 Z.to, .int .i64 Z.po, .int .i64 Z.x.v, .int .i64 Z.x.m, .int .u8 Z.x.b0, .int .u8 Z.x.b1, .int .u8 Z.x.b2, .int .u8 Z.x.i0, .int .u8 Z.x.i1, .int .u8 Z.x.i2, SZ]) ∧ Vb 35 wx w.heap.size [.int .i64 x.k, .int .i64 x.pr, .int .i64 x.to, .int .i64 x.po, .int .i64 x.x.v, .int .i64 x.x.m, .int .u8 x.x.b0, .int .u8 x.x.b1, .int .u8 x.x.b2, .int .u8 x.x.i0, .int .u8 x.x.i1, .int .u8 x.x.i2, .slice A1 n1 c1, .int .i64 y.k, .int .i64 y.pr, .int .i64 y.to, .int .i64 y.po, .int .i64 y.x.v, .int .i64 y.x.m, .int .u8 y.x.b0, .int .u8 y.x.b1, .int .u8 y.x.b2, .int .u8 y.x.i0, .int .u8 y.x.i1, .int .u8 y.x.i2, .slice A2 n2 c2, .int .i64 z.k, .int .i64 z.pr, .int .i64 z.to, .int .i64 z.po, .int .i64 z.x.v, .int .i64 z.x.m, .int .u8 z.x.b0, .int .u8 z.x.b1, .int .u8 z.x.b2, .int .u8 z.x.i0, .int .u8 z.x.i1, .int .u8 z.x.i2, .slice A3 n3 c3] ∧ Below w.heap.size w wx)
      case first => as_aux_lemma =>
        have c0 := h4.cell 0 rfl
        by_cases k1 : X.k = 1
        · have f1 : (X.k == 1) = true := by simpa using k1
          clear k1
          go_wp2_with (first | refine wpList_load_wantR (vs := [.int .i64 X.k, .int .i64 X.pr, .int .i64 X.to, .int .i64 X.po, .int .i64 X.x.v, .int .i64 X.x.m, .int .u8 X.x.b0, .int .u8 X.x.b1, .int .u8 X.x.b2, .int .u8 X.x.i0, .int .u8 X.x.i1, .int .u8 X.x.i2, SX]) (by rfl) (.tmp 4) rfl rfl h4 rfl agg_rule ?_ | refine wpList_load_wantR (vs := [.int .i64 Y.k, .int .i64 Y.pr, .int .i64 Y.to, .int .i64 Y.po, .int .i64 Y.x.v, .int .i64 Y.x.m, .int .u8 Y.x.b0, .int .u8 Y.x.b1, .int .u8 Y.x.b2, .int .u8 Y.x.i0, .int .u8 Y.x.i1, .int .u8 Y.x.i2, SY]) (by rfl) (.tmp 5) rfl rfl h5 rfl agg_rule ?_)
          refine (place_any X Y SX SY _).mono ?_
          rintro e w6 ⟨rfl, hb⟩
          rw [hpl.out]
          clear c0
          replace h4 := h4.below hb h4.lt
          replace h5 := h5.below hb h5.lt
          replace h6 := h6.below hb h6.lt
          replace ha := ha.below hb ha.lt
          replace hB := hB.trans (hb.mono hB.size)
          clear hb
          go_wp2_with fail
          go_meet
          case rel => exact ⟨rfl, ⟨h4, h5, h6⟩, ha, hB⟩
        by_cases k2 : X.k = 2
        · have f1 : (X.k == 1) = false := by simpa using k1
          have f2 : (X.k == 2) = true := by simpa using k2
          clear k1 k2
          go_wp2_with (first | refine wpList_load_wantR (vs := [.int .i64 X.k, .int .i64 X.pr, .int .i64 X.to, .int .i64 X.po, .int .i64 X.x.v, .int .i64 X.x.m, .int .u8 X.x.b0, .int .u8 X.x.b1, .int .u8 X.x.b2, .int .u8 X.x.i0, .int .u8 X.x.i1, .int .u8 X.x.i2, SX]) (by rfl) (.tmp 4) rfl rfl h4 rfl agg_rule ?_ | refine wpList_load_wantR (vs := [.int .i64 Y.k, .int .i64 Y.pr, .int .i64 Y.to, .int .i64 Y.po, .int .i64 Y.x.v, .int .i64 Y.x.m, .int .u8 Y.x.b0, .int .u8 Y.x.b1, .int .u8 Y.x.b2, .int .u8 Y.x.i0, .int .u8 Y.x.i1, .int .u8 Y.x.i2, SY]) (by rfl) (.tmp 5) rfl rfl h5 rfl agg_rule ?_)
          refine (place_any X Y SX SY _).mono ?_
          rintro e w6 ⟨rfl, hb⟩
          rw [hpl.out]
          clear c0
          replace h4 := h4.below hb h4.lt
          replace h5 := h5.below hb h5.lt
          replace h6 := h6.below hb h6.lt
          replace ha := ha.below hb ha.lt
          replace hB := hB.trans (hb.mono hB.size)
          clear hb
          go_wp2_with fail
          go_meet
          case rel => exact ⟨rfl, ⟨h4, h5, h6⟩, ha, hB⟩
        have f1 : (X.k == 1) = false := by simpa using k1
        have f2 : (X.k == 2) = false := by simpa using k2
        clear k1 k2
        go_wp2_with fail
        clear c0
        go_meet
        case rel => exact ⟨rfl, ⟨h4, h5, h6⟩, ha, hB⟩
      obtain ⟨rfl, ⟨h4, h5, h6⟩, ha, hB⟩ := hcut
      go_upto_region 12 with fail
      go_cut [84] from 66 to 111 (fun v wx => v = .bool false ∧ (Vb 28 wx q4 [.int .i64 X.k, .int .i64 X.pr, .int .i64 X.to, .int .i64 X.po, .int .i64 X.x.v, .int .i64 X.x.m, .int .u8 X.x.b0, .int .u8 X.x.b1, .int .u8 X.x.b2, .int .u8 X.x.i0, .int .u8 X.x.i1, .int .u8 X.x.i2, SX] ∧ Vb 28 wx q5 [.int .i64 Y.k, .int .i64 Y.pr, .int .i64 Y.to, .int .i64 Y.po, .int .i64 Y.x.v, .int .i64 Y.x.m, .int .u8 Y.x.b0, .int .u8 Y.x.b1, .int .u8 Y.x.b2, .int .u8 Y.x.i0, .int .u8 Y.x.i1, .int .u8 Y.x.i2, SY] ∧ Vb 28 wx q6 [.int .i64 Z.k, .int .i64 Z.pr, .int .i64 Z.to, .int .i64 Z.po, .int .i64 Z.x.v, .int .i64 Z.x.m, .int .u8 Z.x.b0, .int .u8 Z.x.b1, .int .u8 Z.x.b2, .int .u8 Z.x.i0, .int .u8 Z.x.i1, .int .u8 Z.x.i2, SZ]) ∧ Vb 35 wx w.heap.size [.int .i64 x.k, .int .i64 x.pr, .int .i64 x.to, .int .i64 x.po, .int .i64 x.x.v, .int .i64 x.x.m, .int .u8 x.x.b0, .int .u8 x.x.b1, .int .u8 x.x.b2, .int .u8 x.x.i0, .int .u8 x.x.i1, .int .u8 x.x.i2, .slice A1 n1 c1, .int .i64 y.k, .int .i64 y.pr, .int .i64 y.to, .int .i64 y.po, .int .i64 y.x.v, .int .i64 y.x.m, .int .u8 y.x.b0, .int .u8 y.x.b1, .int .u8 y.x.b2, .int .u8 y.x.i0, .int .u8 y.x.i1, .int .u8 y.x.i2, .slice A2 n2 c2, .int .i64 z.k, .int .i64 z.pr, .int .i64 z.to, .int .i64 z.po, .int .i64 z.x.v, .int .i64 z.x.m, .int .u8 z.x.b0, .int .u8 z.x.b1, .int .u8 z.x.b2, .int .u8 z.x.i0, .int .u8 z.x.i1, .int .u8 z.x.i2, .slice A3 n3 c3] ∧ Below w.heap.size w wx)
      case first => as_aux_lemma =>
        have c0 := h4.cell 0 rfl
        have c1 := h4.cell 1 rfl
        have e0 := h5.cell 0 rfl
        have e1 := h5.cell 1 rfl
        by_cases k1 : X.k = 1
        · have f1 : (X.k == 1) = true := by simpa using k1
          by_cases k2 : Y.k = 1
          · have f2 : (Y.k == 1) = true := by simpa using k2
            by_cases k3 : Y.pr < X.pr
            · exact absurd (HR.out k1 k2 k3) (by have := HM.out; omega)
            · have k4 : ¬ (X.pr > Y.pr) := k3
              clear k1 k2 k3
              go_wp2_with fail
              clear c0 c1 e0 e1
              go_meet
              case rel => exact ⟨rfl, ⟨h4, h5, h6⟩, ha, hB⟩
          · have f2 : (Y.k == 1) = false := by simpa using k2
            clear k1 k2
            go_wp2_with fail
            clear c0 c1 e0 e1
            go_meet
            case rel => exact ⟨rfl, ⟨h4, h5, h6⟩, ha, hB⟩
        · have f1 : (X.k == 1) = false := by simpa using k1
          clear k1
          go_wp2_with fail
          clear c0 c1 e0 e1
          go_meet
          case rel => exact ⟨rfl, ⟨h4, h5, h6⟩, ha, hB⟩
      obtain ⟨rfl, ⟨h4, h5, h6⟩, ha, hB⟩ := hcut
      go_upto_region 14 with fail
      have hd0 := (Below.refl (wc).heap.size wc).drew
      replace ha := ha.below hd0 ha.lt
      replace hB := hB.trans (hd0.mono hB.size)
      replace h4 := h4.below hd0 h4.lt
      replace h5 := h5.below hd0 h5.lt
      replace h6 := h6.below hd0 h6.lt
      as_aux_lemma =>
        have hS0 : (fun W => Vb 28 W q4 [.int .i64 X.k, .int .i64 X.pr, .int .i64 X.to, .int .i64 X.po, .int .i64 X.x.v, .int .i64 X.x.m, .int .u8 X.x.b0, .int .u8 X.x.b1, .int .u8 X.x.b2, .int .u8 X.x.i0, .int .u8 X.x.i1, .int .u8 X.x.i2, SX] ∧ Vb 28 W q5 [.int .i64 Y.k, .int .i64 Y.pr, .int .i64 Y.to, .int .i64 Y.po, .int .i64 Y.x.v, .int .i64 Y.x.m, .int .u8 Y.x.b0, .int .u8 Y.x.b1, .int .u8 Y.x.b2, .int .u8 Y.x.i0, .int .u8 Y.x.i1, .int .u8 Y.x.i2, SY] ∧ Vb 28 W q6 [.int .i64 Z.k, .int .i64 Z.pr, .int .i64 Z.to, .int .i64 Z.po, .int .i64 Z.x.v, .int .i64 Z.x.m, .int .u8 Z.x.b0, .int .u8 Z.x.b1, .int .u8 Z.x.b2, .int .u8 Z.x.i0, .int .u8 Z.x.i1, .int .u8 Z.x.i2, SZ]) wc.drew := ⟨h4, h5, h6⟩
        refine wp_region_held_drew (S := fun W => Vb 28 W q4 [.int .i64 X.k, .int .i64 X.pr, .int .i64 X.to, .int .i64 X.po, .int .i64 X.x.v, .int .i64 X.x.m, .int .u8 X.x.b0, .int .u8 X.x.b1, .int .u8 X.x.b2, .int .u8 X.x.i0, .int .u8 X.x.i1, .int .u8 X.x.i2, SX] ∧ Vb 28 W q5 [.int .i64 Y.k, .int .i64 Y.pr, .int .i64 Y.to, .int .i64 Y.po, .int .i64 Y.x.v, .int .i64 Y.x.m, .int .u8 Y.x.b0, .int .u8 Y.x.b1, .int .u8 Y.x.b2, .int .u8 Y.x.i0, .int .u8 Y.x.i1, .int .u8 Y.x.i2, SY] ∧ Vb 28 W q6 [.int .i64 Z.k, .int .i64 Z.pr, .int .i64 Z.to, .int .i64 Z.po, .int .i64 Z.x.v, .int .i64 Z.x.m, .int .u8 Z.x.b0, .int .u8 Z.x.b1, .int .u8 Z.x.b2, .int .u8 Z.x.i0, .int .u8 Z.x.i1, .int .u8 Z.x.i2, SZ]) (by kernel_rfl) hS0 (fun _ => ?_)
        have hB0 := hB
        clear hB
        have hB : Below wc.drew.heap.size wc.drew wc.drew := Below.refl _ _
        generalize wc.drew = u0 at *
        refine takeD (i := 0) (v := .int .i64 1) (some 85) rfl rfl (by kernel_rfl) (by kernel_rfl) (by kernel_rfl) (fun _ _ _ h => h) (Or.inl ⟨by rfl, ?_⟩) hS0 ?_
        · rintro w' _
          go_simp
        try simp only [Act.put, List.setIfInBounds_toArray, List.set_cons_zero, List.set_cons_succ]
        refine takeD (i := 1) (v := .bool false) (some 86) rfl rfl (by kernel_rfl) (by kernel_rfl) (by kernel_rfl) (fun _ _ _ h => h) (Or.inl ⟨by rfl, ?_⟩) hS0 ?_
        · rintro w' _
          go_simp
        try simp only [Act.put, List.setIfInBounds_toArray, List.set_cons_zero, List.set_cons_succ]
        refine takeD (i := 2) (v := .bool false) (some 87) rfl rfl (by kernel_rfl) (by kernel_rfl) (by kernel_rfl) (fun _ _ _ h => h) (Or.inl ⟨by rfl, ?_⟩) hS0 ?_
        · rintro w' _
          go_simp
        try simp only [Act.put, List.setIfInBounds_toArray, List.set_cons_zero, List.set_cons_succ]
        refine takeD (i := 3) (v := undef) (some 88) rfl rfl (by kernel_rfl) (by kernel_rfl) (by kernel_rfl) (fun _ _ _ h => h) (Or.inr ⟨by rfl, rfl⟩) hS0 ?_
        try simp only [Act.put, List.setIfInBounds_toArray, List.set_cons_zero, List.set_cons_succ]
        refine takeD (i := 4) (v := undef) (some 89) rfl rfl (by kernel_rfl) (by kernel_rfl) (by kernel_rfl) (fun _ _ _ h => h) (Or.inr ⟨by rfl, rfl⟩) hS0 ?_
        try simp only [Act.put, List.setIfInBounds_toArray, List.set_cons_zero, List.set_cons_succ]
        refine takeD (i := 5) (v := undef) (some 90) rfl rfl (by kernel_rfl) (by kernel_rfl) (by kernel_rfl) (fun _ _ _ h => h) (Or.inr ⟨by rfl, rfl⟩) hS0 ?_
        try simp only [Act.put, List.setIfInBounds_toArray, List.set_cons_zero, List.set_cons_succ]
        refine takeD (i := 6) (v := undef) (some 91) rfl rfl (by kernel_rfl) (by kernel_rfl) (by kernel_rfl) (fun _ _ _ h => h) (Or.inr ⟨by rfl, rfl⟩) hS0 ?_
        try simp only [Act.put, List.setIfInBounds_toArray, List.set_cons_zero, List.set_cons_succ]
        refine takeD (i := 7) (v := .bool false) (some 92) rfl rfl (by kernel_rfl) (by kernel_rfl) (by kernel_rfl) (fun _ _ _ h => h) (Or.inl ⟨by rfl, ?_⟩) hS0 ?_
        · rintro w' _
          go_simp
        try simp only [Act.put, List.setIfInBounds_toArray, List.set_cons_zero, List.set_cons_succ]
        refine takeD (i := 8) (v := .bool false) (some 93) rfl rfl (by kernel_rfl) (by kernel_rfl) (by kernel_rfl) (fun _ _ _ h => h) (Or.inl ⟨by rfl, ?_⟩) hS0 ?_
        · rintro w' _
          go_simp
        try simp only [Act.put, List.setIfInBounds_toArray, List.set_cons_zero, List.set_cons_succ]
        refine takeD (i := 9) (v := undef) (some 94) rfl rfl (by kernel_rfl) (by kernel_rfl) (by kernel_rfl) (fun _ _ _ h => h) (Or.inr ⟨by rfl, rfl⟩) hS0 ?_
        try simp only [Act.put, List.setIfInBounds_toArray, List.set_cons_zero, List.set_cons_succ]
        refine takeD (i := 10) (v := undef) (some 95) rfl rfl (by kernel_rfl) (by kernel_rfl) (by kernel_rfl) (fun _ _ _ h => h) (Or.inr ⟨by rfl, rfl⟩) hS0 ?_
        try simp only [Act.put, List.setIfInBounds_toArray, List.set_cons_zero, List.set_cons_succ]
        refine takeD (i := 11) (v := undef) (some 96) rfl rfl (by kernel_rfl) (by kernel_rfl) (by kernel_rfl) (fun _ _ _ h => h) (Or.inr ⟨by rfl, rfl⟩) hS0 ?_
        try simp only [Act.put, List.setIfInBounds_toArray, List.set_cons_zero, List.set_cons_succ]
        refine takeD (i := 12) (v := undef) (some 97) rfl rfl (by kernel_rfl) (by kernel_rfl) (by kernel_rfl) (fun _ _ _ h => h) (Or.inr ⟨by rfl, rfl⟩) hS0 ?_
        try simp only [Act.put, List.setIfInBounds_toArray, List.set_cons_zero, List.set_cons_succ]
        refine takeD (i := 13) (v := .bool false) (some 98) rfl rfl (by kernel_rfl) (by kernel_rfl) (by kernel_rfl) (fun _ _ _ h => h) (Or.inl ⟨by rfl, ?_⟩) hS0 ?_
        · rintro w' _
          go_simp
        try simp only [Act.put, List.setIfInBounds_toArray, List.set_cons_zero, List.set_cons_succ]
        refine takeD (i := 14) (v := .bool false) (some 99) rfl rfl (by kernel_rfl) (by kernel_rfl) (by kernel_rfl) (fun _ _ _ h => h) (Or.inl ⟨by rfl, ?_⟩) hS0 ?_
        · rintro w' _
          go_simp
        try simp only [Act.put, List.setIfInBounds_toArray, List.set_cons_zero, List.set_cons_succ]
        refine takeD (i := 15) (v := .int .i64 1) (some 100) rfl rfl (by kernel_rfl) (by kernel_rfl) (by kernel_rfl) (fun _ _ _ h => h) (Or.inl ⟨by rfl, ?_⟩) hS0 ?_
        · rintro w' _
          go_simp
        try simp only [Act.put, List.setIfInBounds_toArray, List.set_cons_zero, List.set_cons_succ]
        refine takeD (i := 16) (v := .bool false) (some 101) rfl rfl (by kernel_rfl) (by kernel_rfl) (by kernel_rfl) (fun _ _ _ h => h) (Or.inl ⟨by rfl, ?_⟩) hS0 ?_
        · rintro w' _
          go_simp
        try simp only [Act.put, List.setIfInBounds_toArray, List.set_cons_zero, List.set_cons_succ]
        refine takeD (i := 17) (v := .bool false) (some 102) rfl rfl (by kernel_rfl) (by kernel_rfl) (by kernel_rfl) (fun _ _ _ h => h) (Or.inl ⟨by rfl, ?_⟩) hS0 ?_
        · rintro w' _
          go_simp
        try simp only [Act.put, List.setIfInBounds_toArray, List.set_cons_zero, List.set_cons_succ]
        refine takeD (i := 18) (v := undef) (some 103) rfl rfl (by kernel_rfl) (by kernel_rfl) (by kernel_rfl) (fun _ _ _ h => h) (Or.inr ⟨by rfl, rfl⟩) hS0 ?_
        try simp only [Act.put, List.setIfInBounds_toArray, List.set_cons_zero, List.set_cons_succ]
        refine takeD (i := 19) (v := undef) (some 104) rfl rfl (by kernel_rfl) (by kernel_rfl) (by kernel_rfl) (fun _ _ _ h => h) (Or.inr ⟨by rfl, rfl⟩) hS0 ?_
        try simp only [Act.put, List.setIfInBounds_toArray, List.set_cons_zero, List.set_cons_succ]
        refine takeD (i := 20) (v := undef) (some 105) rfl rfl (by kernel_rfl) (by kernel_rfl) (by kernel_rfl) (fun _ _ _ h => h) (Or.inr ⟨by rfl, rfl⟩) hS0 ?_
        try simp only [Act.put, List.setIfInBounds_toArray, List.set_cons_zero, List.set_cons_succ]
        refine takeD (i := 21) (v := undef) (some 106) rfl rfl (by kernel_rfl) (by kernel_rfl) (by kernel_rfl) (fun _ _ _ h => h) (Or.inr ⟨by rfl, rfl⟩) hS0 ?_
        try simp only [Act.put, List.setIfInBounds_toArray, List.set_cons_zero, List.set_cons_succ]
        refine takeD (i := 22) (v := undef) (some 107) rfl rfl (by kernel_rfl) (by kernel_rfl) (by kernel_rfl) (fun _ _ _ h => h) (Or.inr ⟨by rfl, rfl⟩) hS0 ?_
        try simp only [Act.put, List.setIfInBounds_toArray, List.set_cons_zero, List.set_cons_succ]
        refine takeD (i := 23) (v := undef) (some 108) rfl rfl (by kernel_rfl) (by kernel_rfl) (by kernel_rfl) (fun _ _ _ h => h) (Or.inr ⟨by rfl, rfl⟩) hS0 ?_
        try simp only [Act.put, List.setIfInBounds_toArray, List.set_cons_zero, List.set_cons_succ]
        refine takeD (i := 24) (v := undef) (some 109) rfl rfl (by kernel_rfl) (by kernel_rfl) (by kernel_rfl) (fun _ _ _ h => h) (Or.inr ⟨by rfl, rfl⟩) hS0 ?_
        try simp only [Act.put, List.setIfInBounds_toArray, List.set_cons_zero, List.set_cons_succ]
        refine takeD (i := 25) (v := .bool false) (some 110) rfl rfl (by kernel_rfl) (by kernel_rfl) (by kernel_rfl) (fun _ _ _ h => h) (Or.inl ⟨by rfl, ?_⟩) hS0 ?_
        · rintro w' _
          go_simp
        try simp only [Act.put, List.setIfInBounds_toArray, List.set_cons_zero, List.set_cons_succ]
        refine takeD (i := 26) (v := .bool false) (some 111) rfl rfl (by kernel_rfl) (by kernel_rfl) (by kernel_rfl) (fun _ _ _ h => h) (Or.inl ⟨by rfl, ?_⟩) hS0 ?_
        · rintro w' _
          go_simp
        try simp only [Act.put, List.setIfInBounds_toArray, List.set_cons_zero, List.set_cons_succ]
        refine wpAnyH_done (by kernel_rfl) ?_ _
        go_wp2_with fail
        go_roundw
        case rel => exact ⟨k + 1, by omega, by go_num, ha.below hB ha.lt, hB0.trans (hB.mono hB0.size)⟩
        case measure => simp [intOf]; omega
end Go.Proofs.Yteambkehdbffmaa.Oct
