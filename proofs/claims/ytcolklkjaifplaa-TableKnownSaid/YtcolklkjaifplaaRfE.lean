/- Contracts of the document's layer 8: less, row, Compare, Check, Copy, Same. The document's Check, Copy, Same of a rule; SameRules. The document's table in memory: where a rule stands in it; what there is of it. The document's Del and Add of a table. The document's Loose, Control, Data, Rules, SameRules. -/
import Derived.Test.YtcolklkjaifplaaGrpB
import Derived.Test.YtcolklkjaifplaaTabD
import Derived.Test.YtcolklkjaifplaaMskX
import Derived.Test.YtcolklkjaifplaaOrdYs
import Derived.LoopN
import Derived.Test.YtcolklkjaifplaaTabL
import Derived.Test.YtcolklkjaifplaaTabN
import Derived.Test.YtcolklkjaifplaaTabO
import Derived.Test.YtcolklkjaifplaaTabV
import Derived.Test.YtcolklkjaifplaaMskP
namespace Go.Proofs.Ytcolklkjaifplaa.Oct
open Go.RowKit
set_option linter.unusedVariables false
set_option linter.unusedSimpArgs false

/-- A row of ints is written to: a block of another type stays. -/
theorem Oi.vbk {w w' : World} {base n g : Nat} {v : Value} {l : List Int} {T : TypeId} {cs : List Value} (h : Oi w base v n l) (hv : Vb T w g cs) (hT : T ≠ 3) (hg : w.grownBy w' v.ownBlock) : Vb T w' g cs := by
  refine (hg.block g hv.lt (fun e => ?_)).trans hv
  rcases h.2 with ⟨rfl, _⟩ | ⟨k, cap, cur, rfl, hbg, hk, _⟩
  · simp [Value.ownBlock] at e
  · have e : g = k := by simpa [Value.ownBlock] using e
    subst e
    rw [show w.heap[g]? = _ from hv] at hk
    have hk := Option.some.inj hk
    injection hk with _ h2 _
    exact hT h2
def rowI (r : RuleV) : List Int := if r.k = 1 then [r.k, -1 - r.pr, r.x.v, r.x.m, r.x.b0, r.x.b1, r.x.b2, r.x.i0, r.x.i1, r.x.i2] else [r.k, r.to]
theorem refLess_any (a b : Int) (w : World) : Calls Try.prog 131 #[.int .i64 a, .int .i64 b] w fun e w' => e = .returned (.int .i64 (cmpI a b)) ∧ w' = w := by
  by_cases h1 : a < b
  · have H := Kp.mk (show cmpI a b = -1 by unfold cmpI; rw [if_pos h1])
    go_enter Try.func131, Try.ntmps131
    go_wp2_with fail
    go_ret
    exact ⟨by rw [H.out]; rfl, rfl⟩
  · by_cases h2 : b < a
    · have H := Kp.mk (show cmpI a b = 1 by unfold cmpI; repeat' split
                                            all_goals omega)
      go_enter Try.func131, Try.ntmps131
      go_wp2_with fail
      go_ret
      exact ⟨by rw [H.out]; rfl, rfl⟩
    · have H := Kp.mk (show cmpI a b = 0 by unfold cmpI; repeat' split
                                            all_goals omega)
      go_enter Try.func131, Try.ntmps131
      go_wp2_with fail
      go_ret
      exact ⟨by rw [H.out]; rfl, rfl⟩
theorem notI_pr (p : Int) (h0 : 0 ≤ p) (h1 : p ≤ 65535) : bits BinOp.xor IntKind.i64 (-1) p = -1 - p := by
  obtain ⟨n, rfl⟩ : ∃ n : Nat, p = n := ⟨p.toNat, by omega⟩
  show IntKind.i64.wrap ((BitVec.ofInt 64 (-1) ^^^ BitVec.ofInt 64 (n : Int)).toNat : Int) = _
  rw [show BitVec.ofInt 64 (-1) = BitVec.allOnes 64 by decide, BitVec.allOnes_xor, BitVec.toNat_not, ofInt_i64' n (by omega), IntKind.wrap_i64]
  omega
set_option maxRecDepth 100000 in
set_option maxHeartbeats 4000000 in
theorem refRow_any (x : It) (hpr : x.r.k = 1 → 0 ≤ x.r.pr ∧ x.r.pr ≤ 65535) (hmb : MB x.r.x) (w : World) : Calls Try.prog 130 #[.agg (ics x).toArray] w fun e w' => ∃ A n c, e = .returned (.slice A n c) ∧ Oi w' w.heap.size (.slice A n c) n (rowI x.r) ∧ Below w.heap.size w w' := by
  have hb0 := below_alloc w (.cells (ics x).toArray 31)
  have hv := Vb.new 31 w (ics x)
  by_cases hk : x.r.k = 1
  · have n0 : (x.r.k != 1) = false := by simp [hk]
    replace hpr := hpr hk
    have HI := Kp.mk (show rowI x.r = [x.r.k, -1 - x.r.pr, x.r.x.v, x.r.x.m, x.r.x.b0, x.r.x.b1, x.r.x.b2, x.r.x.i0, x.r.x.i1, x.r.x.i2] from if_pos hk)
    go_enter Try.func130, Try.ntmps130
    go_upto_region 1 with fail
    generalize w.alloc (.cells (ics x).toArray 31) = w0 at *
    have c0 := hv.cell 0 rfl
    have c1 := hv.cell 1 rfl
    have c4 := hv.cell 4 rfl
    have c5 := hv.cell 5 rfl
    clear hk
    go_upto_region 5 with fail
    have HNP := Kp.mk (notI_pr x.r.pr hpr.1 hpr.2)
    generalize bits BinOp.xor IntKind.i64 (-1) x.r.pr = NP at *
    have hO : Oi (w0.alloc (.cells #[.int .i64 x.r.k, .int .i64 NP, .int .i64 x.r.x.v, .int .i64 x.r.x.m] 3)) w.heap.size (.slice (some ⟨w0.heap.size, 0, none⟩) 4 4) 4 [x.r.k, NP, x.r.x.v, x.r.x.m] := Oi.lit w0 [x.r.k, NP, x.r.x.v, x.r.x.m] w.heap.size hb0.size (by simp [maxLen])
    have hb1 := below_alloc w0 (.cells #[.int .i64 x.r.k, .int .i64 NP, .int .i64 x.r.x.v, .int .i64 x.r.x.m] 3)
    have hv1 := hv.below hb1 hv.lt
    have hB := hb0.trans (hb1.mono hb0.size)
    clear hb0 hb1 hv c0 c1 c4 c5 n0
    generalize (w0.alloc (.cells #[.int .i64 x.r.k, .int .i64 NP, .int .i64 x.r.x.v, .int .i64 x.r.x.m] 3)) = u0 at *
    generalize w0.heap.size = g0 at *
    obtain ⟨m0, m1, m2, m3, m4, m5⟩ := hmb
    refine wp_loop_rounds (3 + 1) ?_
    rw [rounds_succ]
    have hwr : wrap64 x.r.x.b0 = x.r.x.b0 := by unfold wrap64; omega
    have c := hv1.cell 6 rfl
    have hb6 := below_alloc u0 (.cells #[.int .i64 x.r.x.b0] 3)
    have hr6 : Rd .i64 (u0.alloc (.cells #[.int .i64 x.r.x.b0] 3)) (u0.heap.size + 1) (some ⟨u0.heap.size, 0, none⟩) 1 1 [x.r.x.b0] := rd_lit .i64 u0 3 [x.r.x.b0] (by simp [maxLen]) (u0.heap.size + 1) (by omega)
    have hO6 := hO.below hb6
    have hv6 := hv1.below hb6 hv1.lt
    have hB6 := hB.trans (hb6.mono hB.size)
    obtain ⟨A7, c7, u1, hrun, hO7, hb7, hg7, hN7⟩ := run_appendI 72 hO6 hr6 (by omega) hB6.size
    have hv7 := hO6.vbk hv6 (by decide) hg7
    have hB7 := hB6.trans hb7
    clear hO hv1 hB hb6 hr6 hO6 hv6 hB6 hb7 hg7 hN7
    go_wp2_with (at_builtin; refine Lib.wpList_append_run _ rfl _ _ _ _ rfl _ _ rfl rfl _ _ hrun ?_)
    have hO := hO7
    have hv1 := hv7
    have hB := hB7
    clear hO7 hv7 hB7 hrun c
    rw [rounds_succ]
    have hwr : wrap64 x.r.x.b1 = x.r.x.b1 := by unfold wrap64; omega
    have c := hv1.cell 7 rfl
    have hb6 := below_alloc u1 (.cells #[.int .i64 x.r.x.b1] 3)
    have hr6 : Rd .i64 (u1.alloc (.cells #[.int .i64 x.r.x.b1] 3)) (u1.heap.size + 1) (some ⟨u1.heap.size, 0, none⟩) 1 1 [x.r.x.b1] := rd_lit .i64 u1 3 [x.r.x.b1] (by simp [maxLen]) (u1.heap.size + 1) (by omega)
    have hO6 := hO.below hb6
    have hv6 := hv1.below hb6 hv1.lt
    have hB6 := hB.trans (hb6.mono hB.size)
    obtain ⟨A8, c8, u2, hrun, hO7, hb7, hg7, hN7⟩ := run_appendI 72 hO6 hr6 (by omega) hB6.size
    have hv7 := hO6.vbk hv6 (by decide) hg7
    have hB7 := hB6.trans hb7
    clear hO hv1 hB hb6 hr6 hO6 hv6 hB6 hb7 hg7 hN7
    go_wp2_with (at_builtin; refine Lib.wpList_append_run _ rfl _ _ _ _ rfl _ _ rfl rfl _ _ hrun ?_)
    have hO := hO7
    have hv1 := hv7
    have hB := hB7
    clear hO7 hv7 hB7 hrun c
    rw [rounds_succ]
    have hwr : wrap64 x.r.x.b2 = x.r.x.b2 := by unfold wrap64; omega
    have c := hv1.cell 8 rfl
    have hb6 := below_alloc u2 (.cells #[.int .i64 x.r.x.b2] 3)
    have hr6 : Rd .i64 (u2.alloc (.cells #[.int .i64 x.r.x.b2] 3)) (u2.heap.size + 1) (some ⟨u2.heap.size, 0, none⟩) 1 1 [x.r.x.b2] := rd_lit .i64 u2 3 [x.r.x.b2] (by simp [maxLen]) (u2.heap.size + 1) (by omega)
    have hO6 := hO.below hb6
    have hv6 := hv1.below hb6 hv1.lt
    have hB6 := hB.trans (hb6.mono hB.size)
    obtain ⟨A9, c9, u3, hrun, hO7, hb7, hg7, hN7⟩ := run_appendI 72 hO6 hr6 (by omega) hB6.size
    have hv7 := hO6.vbk hv6 (by decide) hg7
    have hB7 := hB6.trans hb7
    clear hO hv1 hB hb6 hr6 hO6 hv6 hB6 hb7 hg7 hN7
    go_wp2_with (at_builtin; refine Lib.wpList_append_run _ rfl _ _ _ _ rfl _ _ rfl rfl _ _ hrun ?_)
    have hO := hO7
    have hv1 := hv7
    have hB := hB7
    clear hO7 hv7 hB7 hrun c
    rw [rounds_succ]
    go_wp2_with fail
    refine wp_loop_rounds (3 + 1) ?_
    rw [rounds_succ]
    have hwr : wrap64 x.r.x.i0 = x.r.x.i0 := by unfold wrap64; omega
    have c := hv1.cell 9 rfl
    have hb6 := below_alloc u3 (.cells #[.int .i64 x.r.x.i0] 3)
    have hr6 : Rd .i64 (u3.alloc (.cells #[.int .i64 x.r.x.i0] 3)) (u3.heap.size + 1) (some ⟨u3.heap.size, 0, none⟩) 1 1 [x.r.x.i0] := rd_lit .i64 u3 3 [x.r.x.i0] (by simp [maxLen]) (u3.heap.size + 1) (by omega)
    have hO6 := hO.below hb6
    have hv6 := hv1.below hb6 hv1.lt
    have hB6 := hB.trans (hb6.mono hB.size)
    obtain ⟨A10, c10, u4, hrun, hO7, hb7, hg7, hN7⟩ := run_appendI 72 hO6 hr6 (by omega) hB6.size
    have hv7 := hO6.vbk hv6 (by decide) hg7
    have hB7 := hB6.trans hb7
    clear hO hv1 hB hb6 hr6 hO6 hv6 hB6 hb7 hg7 hN7
    go_wp2_with (at_builtin; refine Lib.wpList_append_run _ rfl _ _ _ _ rfl _ _ rfl rfl _ _ hrun ?_)
    have hO := hO7
    have hv1 := hv7
    have hB := hB7
    clear hO7 hv7 hB7 hrun c
    rw [rounds_succ]
    have hwr : wrap64 x.r.x.i1 = x.r.x.i1 := by unfold wrap64; omega
    have c := hv1.cell 10 rfl
    have hb6 := below_alloc u4 (.cells #[.int .i64 x.r.x.i1] 3)
    have hr6 : Rd .i64 (u4.alloc (.cells #[.int .i64 x.r.x.i1] 3)) (u4.heap.size + 1) (some ⟨u4.heap.size, 0, none⟩) 1 1 [x.r.x.i1] := rd_lit .i64 u4 3 [x.r.x.i1] (by simp [maxLen]) (u4.heap.size + 1) (by omega)
    have hO6 := hO.below hb6
    have hv6 := hv1.below hb6 hv1.lt
    have hB6 := hB.trans (hb6.mono hB.size)
    obtain ⟨A11, c11, u5, hrun, hO7, hb7, hg7, hN7⟩ := run_appendI 72 hO6 hr6 (by omega) hB6.size
    have hv7 := hO6.vbk hv6 (by decide) hg7
    have hB7 := hB6.trans hb7
    clear hO hv1 hB hb6 hr6 hO6 hv6 hB6 hb7 hg7 hN7
    go_wp2_with (at_builtin; refine Lib.wpList_append_run _ rfl _ _ _ _ rfl _ _ rfl rfl _ _ hrun ?_)
    have hO := hO7
    have hv1 := hv7
    have hB := hB7
    clear hO7 hv7 hB7 hrun c
    rw [rounds_succ]
    have hwr : wrap64 x.r.x.i2 = x.r.x.i2 := by unfold wrap64; omega
    have c := hv1.cell 11 rfl
    have hb6 := below_alloc u5 (.cells #[.int .i64 x.r.x.i2] 3)
    have hr6 : Rd .i64 (u5.alloc (.cells #[.int .i64 x.r.x.i2] 3)) (u5.heap.size + 1) (some ⟨u5.heap.size, 0, none⟩) 1 1 [x.r.x.i2] := rd_lit .i64 u5 3 [x.r.x.i2] (by simp [maxLen]) (u5.heap.size + 1) (by omega)
    have hO6 := hO.below hb6
    have hv6 := hv1.below hb6 hv1.lt
    have hB6 := hB.trans (hb6.mono hB.size)
    obtain ⟨A12, c12, u6, hrun, hO7, hb7, hg7, hN7⟩ := run_appendI 72 hO6 hr6 (by omega) hB6.size
    have hv7 := hO6.vbk hv6 (by decide) hg7
    have hB7 := hB6.trans hb7
    clear hO hv1 hB hb6 hr6 hO6 hv6 hB6 hb7 hg7 hN7
    go_wp2_with (at_builtin; refine Lib.wpList_append_run _ rfl _ _ _ _ rfl _ _ rfl rfl _ _ hrun ?_)
    have hO := hO7
    have hv1 := hv7
    have hB := hB7
    clear hO7 hv7 hB7 hrun c
    rw [rounds_succ]
    have HO := Kp.mk hO
    clear hO hv1
    go_wp2_with fail
    go_ret
    refine ⟨_, _, _, rfl, ?_, hB⟩
    have h := HO.out
    rw [HI.out, ← HNP.out]
    exact h
  · have n0 : (x.r.k != 1) = true := by simp [hk]
    have HI := Kp.mk (show rowI x.r = [x.r.k, x.r.to] from if_neg hk)
    go_enter Try.func130, Try.ntmps130
    go_upto_region 1 with fail
    generalize w.alloc (.cells (ics x).toArray 31) = w0 at *
    have c0 := hv.cell 0 rfl
    have c2 := hv.cell 2 rfl
    clear hk
    go_wp2_with fail
    go_ret
    have hb1 := below_alloc w0 (.cells #[.int .i64 x.r.k, .int .i64 x.r.to] 3)
    refine ⟨_, _, _, rfl, ?_, hb0.trans (hb1.mono hb0.size)⟩
    rw [HI.out]
    exact Oi.lit w0 [x.r.k, x.r.to] w.heap.size hb0.size (by simp [maxLen])

theorem cmpL_row (a b : RuleV) : cmpL (rowI a) (rowI b) = cmpR a b := by
  rw [cmpR_key]
  unfold rowI keyR
  by_cases ha : a.k = 1 <;> by_cases hb : b.k = 1
  · rw [if_pos ha, if_pos hb, if_pos ha, if_pos hb]
    simp only [cmpL]
    have e : cmpI (-1 - a.pr) (-1 - b.pr) = cmpI (-a.pr) (-b.pr) := by unfold cmpI; repeat' split <;> omega
    rw [e]
  · rw [if_pos ha, if_neg hb, if_pos ha, if_neg hb]
    have h0 : cmpI a.k b.k ≠ 0 := fun e => hb (by have := (cmpI_zero a.k b.k).1 e; omega)
    simp only [cmpL]
    rw [if_neg h0, if_neg h0]
  · rw [if_neg ha, if_pos hb, if_neg ha, if_pos hb]
    have h0 : cmpI a.k b.k ≠ 0 := fun e => ha (by have := (cmpI_zero a.k b.k).1 e; omega)
    simp only [cmpL]
    rw [if_neg h0, if_neg h0]
  · rw [if_neg ha, if_neg hb, if_neg ha, if_neg hb]
    simp only [cmpL, cmpI_self]
    simp
theorem cmpL_drop {xs ys : List Int} {i : Nat} (hx : i < xs.length) (hy : i < ys.length) : cmpL (xs.drop i) (ys.drop i) = if cmpI (xs.getD i 0) (ys.getD i 0) = 0 then cmpL (xs.drop (i + 1)) (ys.drop (i + 1)) else cmpI (xs.getD i 0) (ys.getD i 0) := by
  rw [drop_step hx, drop_step hy]
  rfl
theorem cmpL_end {xs ys : List Int} {i : Nat} (h : ¬ (i < xs.length ∧ i < ys.length)) : cmpL (xs.drop i) (ys.drop i) = 0 := by
  by_cases hx : i < xs.length
  · rw [List.drop_eq_nil_of_le (show ys.length ≤ i by omega)]
    cases xs.drop i <;> rfl
  · rw [List.drop_eq_nil_of_le (show xs.length ≤ i by omega)]
    rfl
set_option maxRecDepth 100000 in
set_option maxHeartbeats 4000000 in
theorem refCompare_any (x y : It) (hx : x.r.k = 1 → 0 ≤ x.r.pr ∧ x.r.pr ≤ 65535) (hxm : MB x.r.x) (hy : y.r.k = 1 → 0 ≤ y.r.pr ∧ y.r.pr ≤ 65535) (hym : MB y.r.x) (w : World) : Calls Try.prog 122 #[.agg (ics x).toArray, .agg (ics y).toArray] w fun e w' => e = .returned (.int .i64 (cmpR x.r y.r)) ∧ Below w.heap.size w w' := by
  have hb0 := below_two w (.cells (ics x).toArray 31) (.cells (ics y).toArray 31)
  have hvx : Vb 31 ((w.alloc (.cells (ics x).toArray 31)).alloc (.cells (ics y).toArray 31)) w.heap.size (ics x) := (Vb.new 31 w (ics x)).alloc _
  have hvy : Vb 31 ((w.alloc (.cells (ics x).toArray 31)).alloc (.cells (ics y).toArray 31)) (w.heap.size + 1) (ics y) := by have := Vb.new 31 (w.alloc (.cells (ics x).toArray 31)) (ics y); simpa using this
  have HX := Kp.mk (fun W => refRow_any x hx hxm W)
  have HY := Kp.mk (fun W => refRow_any y hy hym W)
  have HC := Kp.mk (cmpL_row x.r y.r)
  clear hx hy hxm hym
  go_enter Try.func122, Try.ntmps122
  go_upto_region 1 with fail
  generalize ((w.alloc (.cells (ics x).toArray 31)).alloc (.cells (ics y).toArray 31)) = w0 at *
  obtain ⟨gy, hgy⟩ : ∃ g, g = w.heap.size + 1 := ⟨_, rfl⟩
  rw [← hgy] at hvy ⊢
  clear hgy
  have hS0 : (fun W => Vb 31 W w.heap.size [.int .i64 x.r.k, .int .i64 x.r.pr, .int .i64 x.r.to, .int .i64 x.r.po, .int .i64 x.r.x.v, .int .i64 x.r.x.m, .int .u8 x.r.x.b0, .int .u8 x.r.x.b1, .int .u8 x.r.x.b2, .int .u8 x.r.x.i0, .int .u8 x.r.x.i1, .int .u8 x.r.x.i2, .slice x.A x.r.os.length x.c] ∧ Vb 31 W gy [.int .i64 y.r.k, .int .i64 y.r.pr, .int .i64 y.r.to, .int .i64 y.r.po, .int .i64 y.r.x.v, .int .i64 y.r.x.m, .int .u8 y.r.x.b0, .int .u8 y.r.x.b1, .int .u8 y.r.x.b2, .int .u8 y.r.x.i0, .int .u8 y.r.x.i1, .int .u8 y.r.x.i2, .slice y.A y.r.os.length y.c]) w0.drew := ⟨hvx, hvy⟩
  have hbd := hb0.drew
  refine wp_region_held_drew (S := fun W => Vb 31 W w.heap.size [.int .i64 x.r.k, .int .i64 x.r.pr, .int .i64 x.r.to, .int .i64 x.r.po, .int .i64 x.r.x.v, .int .i64 x.r.x.m, .int .u8 x.r.x.b0, .int .u8 x.r.x.b1, .int .u8 x.r.x.b2, .int .u8 x.r.x.i0, .int .u8 x.r.x.i1, .int .u8 x.r.x.i2, .slice x.A x.r.os.length x.c] ∧ Vb 31 W gy [.int .i64 y.r.k, .int .i64 y.r.pr, .int .i64 y.r.to, .int .i64 y.r.po, .int .i64 y.r.x.v, .int .i64 y.r.x.m, .int .u8 y.r.x.b0, .int .u8 y.r.x.b1, .int .u8 y.r.x.b2, .int .u8 y.r.x.i0, .int .u8 y.r.x.i1, .int .u8 y.r.x.i2, .slice y.A y.r.os.length y.c]) (by kernel_rfl) hS0 (fun _ => ?_)
  clear hvx hvy hb0
  generalize w0.drew = u0 at *
  refine takeD (i := 0) (v := .agg #[.int .i64 x.r.k, .int .i64 x.r.pr, .int .i64 x.r.to, .int .i64 x.r.po, .int .i64 x.r.x.v, .int .i64 x.r.x.m, .int .u8 x.r.x.b0, .int .u8 x.r.x.b1, .int .u8 x.r.x.b2, .int .u8 x.r.x.i0, .int .u8 x.r.x.i1, .int .u8 x.r.x.i2, .slice x.A x.r.os.length x.c]) (some 9) rfl rfl (by kernel_rfl) (by kernel_rfl) (by kernel_rfl) (fun _ _ _ h => h) (Or.inl ⟨by rfl, ?_⟩) hS0 ?_
  · rintro w' ⟨s0, _⟩
    obtain ⟨d0, d1, d2, d3, d4, d5, d6, d7, d8, d9, d10, d11, d12⟩ := s0.c13
    go_simp
  try simp only [Act.put, List.setIfInBounds_toArray, List.set_cons_zero, List.set_cons_succ]
  refine takeD (i := 2) (v := .agg #[.int .i64 y.r.k, .int .i64 y.r.pr, .int .i64 y.r.to, .int .i64 y.r.po, .int .i64 y.r.x.v, .int .i64 y.r.x.m, .int .u8 y.r.x.b0, .int .u8 y.r.x.b1, .int .u8 y.r.x.b2, .int .u8 y.r.x.i0, .int .u8 y.r.x.i1, .int .u8 y.r.x.i2, .slice y.A y.r.os.length y.c]) (some 11) rfl rfl (by kernel_rfl) (by kernel_rfl) (by kernel_rfl) (fun _ _ _ h => h) (Or.inl ⟨by rfl, ?_⟩) hS0 ?_
  · rintro w' ⟨_, s0⟩
    obtain ⟨d0, d1, d2, d3, d4, d5, d6, d7, d8, d9, d10, d11, d12⟩ := s0.c13
    go_simp
  try simp only [Act.put, List.setIfInBounds_toArray, List.set_cons_zero, List.set_cons_succ]
  refine wpAnyH_ready (rs := [1]) (by kernel_rfl) (by simp) ?_
  refine AllReadyH.cons rfl (fun K hK => ?_) AllReadyH.nil
  go_simp
  go_at_call 130
  refine (HX.out u0).mono ?_
  rintro e u1 ⟨A1, n1, c1, rfl, ho1, hb1⟩
  have hS1 : (fun W => Vb 31 W w.heap.size [.int .i64 x.r.k, .int .i64 x.r.pr, .int .i64 x.r.to, .int .i64 x.r.po, .int .i64 x.r.x.v, .int .i64 x.r.x.m, .int .u8 x.r.x.b0, .int .u8 x.r.x.b1, .int .u8 x.r.x.b2, .int .u8 x.r.x.i0, .int .u8 x.r.x.i1, .int .u8 x.r.x.i2, .slice x.A x.r.os.length x.c] ∧ Vb 31 W gy [.int .i64 y.r.k, .int .i64 y.r.pr, .int .i64 y.r.to, .int .i64 y.r.po, .int .i64 y.r.x.v, .int .i64 y.r.x.m, .int .u8 y.r.x.b0, .int .u8 y.r.x.b1, .int .u8 y.r.x.b2, .int .u8 y.r.x.i0, .int .u8 y.r.x.i1, .int .u8 y.r.x.i2, .slice y.A y.r.os.length y.c]) u1 := ⟨Vb.below hS0.1 hb1 (Vb.lt hS0.1), Vb.below hS0.2 hb1 (Vb.lt hS0.2)⟩
  have hB1 := hbd.trans (hb1.mono hbd.size)
  refine hK.out _ _ hS1 (fun _ => ?_)
  clear hK K hS0 hbd hb1
  try simp only [Act.put, List.setIfInBounds_toArray, List.set_cons_zero, List.set_cons_succ]
  refine wpAnyH_ready (rs := [3]) (by kernel_rfl) (by simp) ?_
  refine AllReadyH.cons rfl (fun K hK => ?_) AllReadyH.nil
  go_simp
  go_at_call 130
  refine (HY.out u1).mono ?_
  rintro e u2 ⟨A2, n2, c2, rfl, ho2, hb2⟩
  have hS2 : (fun W => Vb 31 W w.heap.size [.int .i64 x.r.k, .int .i64 x.r.pr, .int .i64 x.r.to, .int .i64 x.r.po, .int .i64 x.r.x.v, .int .i64 x.r.x.m, .int .u8 x.r.x.b0, .int .u8 x.r.x.b1, .int .u8 x.r.x.b2, .int .u8 x.r.x.i0, .int .u8 x.r.x.i1, .int .u8 x.r.x.i2, .slice x.A x.r.os.length x.c] ∧ Vb 31 W gy [.int .i64 y.r.k, .int .i64 y.r.pr, .int .i64 y.r.to, .int .i64 y.r.po, .int .i64 y.r.x.v, .int .i64 y.r.x.m, .int .u8 y.r.x.b0, .int .u8 y.r.x.b1, .int .u8 y.r.x.b2, .int .u8 y.r.x.i0, .int .u8 y.r.x.i1, .int .u8 y.r.x.i2, .slice y.A y.r.os.length y.c]) u2 := ⟨Vb.below hS1.1 hb2 (Vb.lt hS1.1), Vb.below hS1.2 hb2 (Vb.lt hS1.2)⟩
  have hB2 := hB1.trans (hb2.mono hB1.size)
  replace ho1 := ho1.below hb2
  refine hK.out _ _ hS2 (fun _ => ?_)
  clear hK K hS1 hB1 hb2
  try simp only [Act.put, List.setIfInBounds_toArray, List.set_cons_zero, List.set_cons_succ]
  refine takeD (i := 4) (v := .slice A1 n1 c1) (some 5) rfl rfl (by kernel_rfl) (by kernel_rfl) (by kernel_rfl) (fun _ _ _ h => h) (Or.inl ⟨by rfl, ?_⟩) hS2 ?_
  · rintro w' _
    go_simp
  try simp only [Act.put, List.setIfInBounds_toArray, List.set_cons_zero, List.set_cons_succ]
  refine takeD (i := 5) (v := .slice A2 n2 c2) (some 6) rfl rfl (by kernel_rfl) (by kernel_rfl) (by kernel_rfl) (fun _ _ _ h => h) (Or.inl ⟨by rfl, ?_⟩) hS2 ?_
  · rintro w' _
    go_simp
  try simp only [Act.put, List.setIfInBounds_toArray, List.set_cons_zero, List.set_cons_succ]
  refine wpAnyH_done (by kernel_rfl) ?_ _
  have H1 := Kp.mk ho1.rd
  have H2 := Kp.mk ho2.rd
  have m1 := ho1.rd.max
  have m2 := ho2.rd.max
  have L1 := Kp.mk ho1.len
  have L2 := Kp.mk ho2.len
  clear hS2 ho1 ho2 HX HY
  generalize rowI x.r = xs at *
  generalize rowI y.r = ys at *
  have hbz := Below.refl u2.heap.size u2
  have HB := Kp.mk hB2
  clear hB2
  go_wp2_with fail
  go_loopw [7] (fun s7 wr => ∃ i : Nat, s7 = .int .i64 i ∧ i ≤ n1 ∧ i ≤ n2 ∧ Kp (cmpR x.r y.r = cmpL (xs.drop i) (ys.drop i)) ∧ Below u2.heap.size u2 wr) (fun s7 _ => n1 - (intOf s7).toNat)
  case atStart => exact ⟨0, rfl, Nat.zero_le _, Nat.zero_le _, Kp.mk HC.out.symm, hbz⟩
  case round =>
    clear hbz HC
    obtain ⟨i, rfl, hi1, hi2, HT, hbw⟩ := hrel
    by_cases hgo : (i : Int) < n1 ∧ (i : Int) < n2
    · obtain ⟨j1, j2⟩ := hgo
      obtain ⟨b1, o1, rfl, _, f1⟩ := (H1.out.below hbw).at_ (by omega)
      obtain ⟨b2, o2, rfl, _, f2⟩ := (H2.out.below hbw).at_ (by omega)
      have d1 := f1 i (by omega)
      have d2 := f2 i (by omega)
      clear f1 f2
      have HD := Kp.mk (cmpL_drop (xs := xs) (ys := ys) (i := i) (by have := L1.out; omega) (by have := L2.out; omega))
      generalize xs.getD i 0 = p at *
      generalize ys.getD i 0 = q at *
      go_wp2_with fail
      go_quiet ((go_at_call 131; exact Calls.quiet_of_same (refLess_any p q _)))
      by_cases hc : cmpI p q = 0
      · have HT2 := Kp.mk (show cmpR x.r y.r = cmpL (xs.drop (i + 1)) (ys.drop (i + 1)) by rw [HT.out, HD.out, if_pos hc])
        have n0 : (cmpI p q != 0) = false := by simp [hc]
        clear hc
        go_wp2_with fail
        go_roundw
        case rel => exact ⟨i + 1, by go_num, by omega, by omega, HT2, below_drewN hbw _⟩
        case measure => simp [intOf]; omega
      · have HT2 := Kp.mk (show cmpR x.r y.r = cmpI p q by rw [HT.out, HD.out, if_neg hc])
        have n0 : (cmpI p q != 0) = true := by simp [hc]
        clear hc
        go_wp2_with fail
        go_ret
        exact ⟨by rw [HT2.out]; rfl, HB.out.trans ((below_drewN hbw _).mono HB.out.size)⟩
    have HE := Kp.mk (show cmpR x.r y.r = 0 by rw [HT.out, cmpL_end (by have := L1.out; have := L2.out; omega)])
    by_cases j1 : (i : Int) < n1
    · have j2 : ¬ (i : Int) < n2 := fun h => hgo ⟨j1, h⟩
      clear hgo
      go_wp2_with fail
      go_ret
      exact ⟨by rw [HE.out]; rfl, HB.out.trans (hbw.mono HB.out.size)⟩
    · clear hgo
      go_wp2_with fail
      go_ret
      exact ⟨by rw [HE.out]; rfl, HB.out.trans (hbw.mono HB.out.size)⟩
end Go.Proofs.Ytcolklkjaifplaa.Oct

namespace Go.Proofs.Ytcolklkjaifplaa.Oct
open Go.RowKit
set_option linter.unusedVariables false
set_option linter.unusedSimpArgs false

set_option maxRecDepth 100000 in
set_option maxHeartbeats 4000000 in
theorem refCheck8_any {w : World} {B : Nat} (x : It) (hx : Ro w B x.A x.r.os.length x.c x.r.os) (hB : B ≤ w.heap.size) : Calls Try.prog 103 #[.agg (ics x).toArray] w fun e w' => e = .returned (.int .i64 (checkR x.r)) ∧ Below w.heap.size w w' := by
  have hb0 := below_alloc w (.cells (ics x).toArray 31)
  have hv := Vb.new 31 w (ics x)
  have hx1 := hx.below' hb0 hB
  go_enter Try.func103, Try.ntmps103
  go_upto_region 1 with fail
  generalize w.alloc (.cells (ics x).toArray 31) = w0 at *
  go_wp2_with (first | refine wpList_load_vb (vs := ics x) rfl (.tmp 1) rfl rfl hv rfl agg_rule ?_)
  refine (refRuleO_any x.r hx1 (by have := hb0.size; omega)).mono ?_
  rintro e w1 ⟨rfl, hb⟩
  go_wp2_with fail
  go_ret
  exact ⟨rfl, hb0.trans (hb.mono hb0.size)⟩
set_option maxRecDepth 100000 in
set_option maxHeartbeats 8000000 in
theorem refCopy_any {w : World} {B : Nat} (x : It) (h : Ro w B x.A x.r.os.length x.c x.r.os) (hB : B ≤ w.heap.size) (hsz : x.r.os.length ≤ 1000000000) : Calls Try.prog 95 #[.agg (ics x).toArray] w fun e w' => ∃ y : It, y.r = x.r ∧ e = .returned (.agg (ics y).toArray) ∧ Ob w' y ∧ Fre w.heap.size y ∧ Below w.heap.size w w' := by
  have hx : Vb 31 ((w.alloc (.cells (ics x).toArray 31)).alloc (.cells (ics zIt).toArray 31)) w.heap.size (ics x) := (Vb.new 31 w (ics x)).alloc _
  have hr : Vb 31 ((w.alloc (.cells (ics x).toArray 31)).alloc (.cells (ics zIt).toArray 31)) (w.heap.size + 1) (ics zIt) := by have := Vb.new 31 (w.alloc (.cells (ics x).toArray 31)) (ics zIt); simpa using this
  have hB0 := below_two w (.cells (ics x).toArray 31) (.cells (ics zIt).toArray 31)
  have hz : ((w.alloc (.cells (ics x).toArray 31)).alloc (.cells (ics zIt).toArray 31)).heap.size = w.heap.size + 2 := by simp
  have h1 := h.below' hB0 hB
  have d12 := hx.cell 12 rfl
  rw [show (ics zIt).toArray = #[.int .i64 0, .int .i64 0, .int .i64 0, .int .i64 0, .int .i64 0, .int .i64 0, .int .u8 0, .int .u8 0, .int .u8 0, .int .u8 0, .int .u8 0, .int .u8 0, .slice none 0 0] from rfl] at *
  go_enter Try.func95, Try.ntmps95
  go_upto_region 2 with fail
  generalize (w.alloc (.cells (ics x).toArray 31)).alloc (.cells #[.int .i64 0, .int .i64 0, .int .i64 0, .int .i64 0, .int .i64 0, .int .i64 0, .int .u8 0, .int .u8 0, .int .u8 0, .int .u8 0, .int .u8 0, .int .u8 0, .slice none 0 0] 31) = w0 at *
  have hown := Owo.nil w0 w0.heap.size
  have HGO := Kp.mk (show ∀ w1, w0.grownBy w1 (Value.slice none 0 0).ownBlock → Below w0.heap.size w0 w1 → w0.frozen? ⟨w.heap.size, 12, none⟩ = false → w1.frozen? ⟨w.heap.size, 12, none⟩ = false from fun w1 hg hb hf => (World.frozen?_of_block (hb.block _ (by have := hx.lt; exact this))).trans hf)
  have hf0 := hx.free 12
  go_upto_region 3 with (at_builtin; refine wpList_appendO rfl (.tmp 4) (.tmp 6) rfl rfl hown rfl h1 (by omega) (Nat.le_refl _) ?_; intro A' c' w1 hO hb hg1; have hx1 := hx.below hb hx.lt; have hr1 := hr.below hb hr.lt; have d12' := hx1.cell 12 rfl; have hf1 := hx1.free; clear d12 hf0)
  rw [Nat.zero_add] at *
  have hx2 : Vb 31 (w1.setCell ⟨w.heap.size, 12, none⟩ (.slice A' x.r.os.length c')) w.heap.size (ics ⟨x.r, A', c'⟩) := hx1.set 12 _
  have hr2 := hr1.other (r := w.heap.size) (by omega) 12 (.slice A' x.r.os.length c')
  have hO2 := hO.keep (grownBy_set w1 w.heap.size 12 (.slice A' x.r.os.length c')) (by omega)
  have hB2 := (hB0.trans (hb.mono hB0.size)).setCell (p := ⟨w.heap.size, 12, none⟩) (Nat.le_refl _) (.slice A' x.r.os.length c')
  clear hx hr hO d12' hf1 hb hx1 hr1 HGO hown hg1
  generalize w1.setCell ⟨w.heap.size, 12, none⟩ (.slice A' x.r.os.length c') = w2 at *
  go_wp2_with (first | refine wpList_load_vb (vs := ics ⟨x.r, A', c'⟩) rfl (.tmp 1) rfl rfl hx2 rfl agg_rule ?_ | (refine wpList_store_vb (vs := ics ⟨x.r, A', c'⟩) rfl (.tmp 2) (.tmp 9) rfl rfl rfl hr2 rfl agg_rule rfl ?_; intro w3 hv3 hg3 hz3))
  refine bodyPost_ret (results_one Try.results95 _ rfl hv3 agg_rule) rfl ?_
  have hO3 := hO2.keep hg3 (by omega)
  obtain ⟨o1, o2⟩ := hO3.ob (r := x.r)
  refine ⟨⟨x.r, A', c'⟩, rfl, rfl, o1, fun hn a e => ?_, hB2.grown hg3 hB2.size (fun k e => by simp at e; omega)⟩
  have := o2 hn a e
  omega
set_option maxRecDepth 100000 in
set_option maxHeartbeats 4000000 in
theorem refSame8_any {w : World} (x y : It) (hx : Ob w x) (hy : Ob w y) : Calls Try.prog 65 #[.agg (ics x).toArray, .agg (ics y).toArray] w fun e w' => e = .returned (.bool (sameR x.r y.r)) ∧ Below w.heap.size w w' := by
  have hb0 := below_two w (.cells (ics x).toArray 31) (.cells (ics y).toArray 31)
  have hvx : Vb 31 ((w.alloc (.cells (ics x).toArray 31)).alloc (.cells (ics y).toArray 31)) w.heap.size (ics x) := (Vb.new 31 w (ics x)).alloc _
  have hvy : Vb 31 ((w.alloc (.cells (ics x).toArray 31)).alloc (.cells (ics y).toArray 31)) (w.heap.size + 1) (ics y) := by have := Vb.new 31 (w.alloc (.cells (ics x).toArray 31)) (ics y); simpa using this
  have hox := (hx.below hb0).ro
  have hoy := (hy.below hb0).ro
  go_enter Try.func65, Try.ntmps65
  go_upto_region 1 with fail
  generalize ((w.alloc (.cells (ics x).toArray 31)).alloc (.cells (ics y).toArray 31)) = w0 at *
  obtain ⟨gy, hgy⟩ : ∃ g, g = w.heap.size + 1 := ⟨_, rfl⟩
  rw [← hgy] at hvy ⊢
  clear hgy
  go_wp2_with (first | refine wpList_load_vb (vs := ics x) rfl (.tmp 2) rfl rfl hvx rfl agg_rule ?_ | refine wpList_load_vb (vs := ics y) rfl (.tmp 3) rfl rfl hvy rfl agg_rule ?_)
  refine (refSameRule_any hox (Nat.le_refl _) hoy (Nat.le_refl _)).mono ?_
  rintro e w1 ⟨rfl, hb⟩
  go_wp2_with fail
  go_ret
  exact ⟨rfl, hb0.trans (hb.mono hb0.size)⟩
end Go.Proofs.Ytcolklkjaifplaa.Oct

namespace Go.Proofs.Ytcolklkjaifplaa.Oct
open Go.RowKit
set_option linter.unusedVariables false
set_option linter.unusedSimpArgs false

/-- What Compare of the document asks of a rule. -/
def Gd (r : RuleV) : Prop := (r.k = 1 → 0 ≤ r.pr ∧ r.pr ≤ 65535) ∧ MB r.x
/-- The document's table in memory: its block, its row of rules, their outputs. -/
structure Mt (w : World) (m : Nat) (v : Value) (room : Int) (its : List It) : Prop where
  blk : Vb 121 w m [v, .int .i64 room]
  row : RowS w v its
  outs : ∀ x ∈ its, Ob w x
theorem Mt.below {w w' : World} {m : Nat} {v : Value} {room : Int} {its : List It} (h : Mt w m v room its) (hb : Below w.heap.size w w') : Mt w' m v room its :=
  ⟨h.blk.below hb h.blk.lt, h.row.below hb, fun x hx => (h.outs x hx).below hb⟩
section
variable {w : World} {m : Nat} {v : Value} {room : Int} {its : List It}
theorem mNew_no (w : World) (room : Int) (h : room < 0 ∨ 64 < room) : Calls Try.prog 59 #[.int .i64 room] w fun e w' => e = .returned (.tuple #[.pointer none, .int .i64 2]) ∧ w' = w := by
  by_cases h1 : room < 0
  · go_enter Try.func59, Try.ntmps59
    go_wp2_with fail
    go_ret2
    exact ⟨rfl, rfl⟩
  · have h2 : 64 < room := by omega
    go_enter Try.func59, Try.ntmps59
    go_wp2_with fail
    go_ret2
    exact ⟨rfl, rfl⟩
theorem mNew_yes (w : World) (room : Int) (h1 : 0 ≤ room) (h2 : room ≤ 64) : Calls Try.prog 59 #[.int .i64 room] w fun e w' => e = .returned (.tuple #[.pointer (some ⟨w.heap.size, 0, none⟩), .int .i64 0]) ∧ Mt w' w.heap.size (.slice none 0 0) room [] ∧ Below w.heap.size w w' ∧ w'.heap.size = w.heap.size + 1 := by
  have h3 : ¬ room < 0 := by omega
  have h4 : ¬ 64 < room := by omega
  go_enter Try.func59, Try.ntmps59
  go_wp2_with fail
  go_ret2
  exact ⟨rfl, ⟨Vb.new 121 w [.slice none 0 0, .int .i64 room], RowS.nil _, fun x hx => by simp at hx⟩, below_alloc _ _, by simp⟩
theorem mLen (h : Mt w m v room its) : Calls Try.prog 61 #[.pointer (some ⟨m, 0, none⟩)] w fun e w' => e = .returned (.int .i64 its.length) ∧ w' = w := by
  have c0 := h.blk.cell 0 rfl
  obtain ⟨A, c, rfl, _⟩ := h.row.form
  go_enter Try.func61, Try.ntmps61
  go_wp2_with fail
  go_ret
  exact ⟨rfl, rfl⟩
theorem mRoom (h : Mt w m v room its) : Calls Try.prog 62 #[.pointer (some ⟨m, 0, none⟩)] w fun e w' => e = .returned (.int .i64 room) ∧ w' = w := by
  have c1 := h.blk.cell 1 rfl
  go_enter Try.func62, Try.ntmps62
  go_wp2_with fail
  go_ret
  exact ⟨rfl, rfl⟩
theorem mWipe (h : Mt w m v room its) : Calls Try.prog 93 #[.pointer (some ⟨m, 0, none⟩)] w fun e w' => e = .returned (.int .i64 its.length) ∧ Mt w' m (.slice none 0 0) room [] ∧ w.grownBy w' (some m) := by
  have c0 := h.blk.cell 0 rfl
  have hf := h.blk.free
  obtain ⟨A, c, rfl, _⟩ := h.row.form
  go_enter Try.func93, Try.ntmps93
  go_wp2_with fail
  go_ret
  exact ⟨rfl, ⟨h.blk.set 0 _, RowS.nil _, fun x hx => by simp at hx⟩, grownBy_set _ _ _ _⟩
theorem lo_full {r : RuleV} {l : List RuleV} {k : Nat} (h : loP r l = l.length) : decide (loP r l < hiP r l) = false := decide_eq_false (by have := hi_le (r := r) (l := l); omega)
theorem lo_is {r y : RuleV} {l : List RuleV} (hS : Srt l) (hy : l[loP r l]? = some y) : decide (loP r l < hiP r l) = decide (cmpR y r = 0) := by
  by_cases h : loP r l < hiP r l
  · rw [decide_eq_true h, decide_eq_true (lo_at hS h hy)]
  · rw [decide_eq_false h, decide_eq_false (fun e => h (by have := (at_lo hS hy e).2; omega))]
set_option maxRecDepth 100000 in
set_option maxHeartbeats 8000000 in
theorem mAt (h : Mt w m v room its) (hS : Srt (rls its)) (hG : ∀ x ∈ its, Gd x.r) (p : It) (hp : Gd p.r) : Calls Try.prog 104 #[.pointer (some ⟨m, 0, none⟩), .agg (ics p).toArray] w fun e w' => e = .returned (.tuple #[.int .i64 (loP p.r (rls its)), .bool (decide (loP p.r (rls its) < hiP p.r (rls its)))]) ∧ Below w.heap.size w w' := by
  have hb0 := below_alloc w (.cells (ics p).toArray 31)
  have hv : Vb 31 (w.alloc (.cells (ics p).toArray 31)) w.heap.size [.int .i64 p.r.k, .int .i64 p.r.pr, .int .i64 p.r.to, .int .i64 p.r.po, .int .i64 p.r.x.v, .int .i64 p.r.x.m, .int .u8 p.r.x.b0, .int .u8 p.r.x.b1, .int .u8 p.r.x.b2, .int .u8 p.r.x.i0, .int .u8 p.r.x.i1, .int .u8 p.r.x.i2, .slice p.A p.r.os.length p.c] := Vb.new 31 w (ics p)
  have h1 := h.below hb0
  obtain ⟨A, c, rfl, hs, hc1, hc2, hc3⟩ := h1.row.form
  have l1 := lo_le (r := p.r) (l := rls its)
  have hmax : (its.length : Int) ≤ 9223372036854775807 := by have h2 := hc2; unfold maxLen at h2; omega
  rw [rls_len] at l1
  have HI := Kp.mk (fun i x (hx : its[i]? = some x) => lo_iff (r := p.r) hS i x.r (rls_at hx))
  have HE := Kp.mk (fun y (hy : its[loP p.r (rls its)]? = some y) => lo_is (r := p.r) hS (rls_at hy))
  have HF := Kp.mk (fun (hf : loP p.r (rls its) = its.length) => lo_full (r := p.r) (l := rls its) (k := 0) (by rw [rls_len]; exact hf))
  have HG := Kp.mk hG
  have HP := Kp.mk hp
  have hblk := h1.blk
  have HR := Kp.mk h1.row
  generalize decide (loP p.r (rls its) < hiP p.r (rls its)) = isb at *
  generalize loP p.r (rls its) = lo at *
  obtain ⟨n, hn⟩ : ∃ n, n = its.length := ⟨_, rfl⟩
  have HN := Kp.mk hn
  rw [← hn] at hblk HR l1 HF hmax
  clear h h1 hs hc1 hc2 hc3 hG hp hS hn
  go_enter Try.func104, Try.ntmps104
  go_upto_region 1 with fail
  generalize w.alloc (.cells (ics p).toArray 31) = w0 at *
  obtain ⟨gp, hgp⟩ : ∃ g, g = w.heap.size := ⟨_, rfl⟩
  rw [← hgp] at hv ⊢
  have HB := Kp.mk hb0
  clear hgp hb0
  have HV := Kp.mk hv
  have HK := Kp.mk hblk
  have hbz := Below.refl w0.heap.size w0
  clear hv hblk
  go_wp2_with fail
  go_loopw [6] (fun s6 wr => ∃ k : Nat, s6 = .int .i64 k ∧ k ≤ lo ∧ Below w0.heap.size w0 wr) (fun s6 _ => lo - (intOf s6).toNat)
  case atStart => exact ⟨0, rfl, Nat.zero_le _, hbz⟩
  case round =>
    clear hbz
    obtain ⟨k, rfl, hk, hbw⟩ := hrel
    have hblk := HK.out.below hbw HK.out.lt
    have hv := HV.out.below hbw HV.out.lt
    have hrow := HR.out.below hbw
    by_cases hkn : (k : Int) < n
    · obtain ⟨y, hy⟩ : ∃ y, its[k]? = some y := ⟨_, List.getElem?_eq_getElem (by have := HN.out; omega)⟩
      have HY := Kp.mk hy
      have HCM := Kp.mk (fun W => refCompare_any y p (HG.out y (List.mem_of_getElem? hy)).1 (HG.out y (List.mem_of_getElem? hy)).2 HP.out.1 HP.out.2 W)
      rcases hrow with ⟨_, e0⟩ | ⟨g1, sp1, hvv, hrow, _⟩
      · exfalso; rw [e0] at hy; simp at hy
      obtain ⟨rfl, -, -⟩ := Value.slice.inj hvv
      clear hvv
      have hyz : (its ++ sp1)[k]? = some y := by rw [List.getElem?_append_left (by have := HN.out; omega)]; exact hy
      generalize its ++ sp1 = R1 at *
      clear hy
      have q0 := fl_get R1 k 0 y hyz (by omega)
      have q1 := fl_get R1 k 1 y hyz (by omega)
      have q2 := fl_get R1 k 2 y hyz (by omega)
      have q3 := fl_get R1 k 3 y hyz (by omega)
      have q4 := fl_get R1 k 4 y hyz (by omega)
      have q5 := fl_get R1 k 5 y hyz (by omega)
      have q6 := fl_get R1 k 6 y hyz (by omega)
      have q7 := fl_get R1 k 7 y hyz (by omega)
      have q8 := fl_get R1 k 8 y hyz (by omega)
      have q9 := fl_get R1 k 9 y hyz (by omega)
      have q10 := fl_get R1 k 10 y hyz (by omega)
      have q11 := fl_get R1 k 11 y hyz (by omega)
      have q12 := fl_get R1 k 12 y hyz (by omega)
      rw [Nat.add_zero] at q0
      have hbx := hbw
      by_cases hlo : k < lo
      · have hneg : cmpR y.r p.r < 0 := (HI.out k y HY.out).2 hlo
        go_upto_region 2 with fail
        have hS0 : (fun W => Vb 121 W m [.slice (some ⟨g1, 0, none⟩) n c, .int .i64 room] ∧ Rowb W g1 R1 ∧ Vb 31 W gp [.int .i64 p.r.k, .int .i64 p.r.pr, .int .i64 p.r.to, .int .i64 p.r.po, .int .i64 p.r.x.v, .int .i64 p.r.x.m, .int .u8 p.r.x.b0, .int .u8 p.r.x.b1, .int .u8 p.r.x.b2, .int .u8 p.r.x.i0, .int .u8 p.r.x.i1, .int .u8 p.r.x.i2, .slice p.A p.r.os.length p.c]) wr.drew := ⟨hblk, hrow, hv⟩
        have hbd := hbx.drew
        refine wp_region_held_drew (S := fun W => Vb 121 W m [.slice (some ⟨g1, 0, none⟩) n c, .int .i64 room] ∧ Rowb W g1 R1 ∧ Vb 31 W gp [.int .i64 p.r.k, .int .i64 p.r.pr, .int .i64 p.r.to, .int .i64 p.r.po, .int .i64 p.r.x.v, .int .i64 p.r.x.m, .int .u8 p.r.x.b0, .int .u8 p.r.x.b1, .int .u8 p.r.x.b2, .int .u8 p.r.x.i0, .int .u8 p.r.x.i1, .int .u8 p.r.x.i2, .slice p.A p.r.os.length p.c]) (by kernel_rfl) hS0 (fun _ => ?_)
        clear hbx
        generalize wr.drew = u0 at *
        clear hblk hrow hv hbw
        refine takeD (i := 0) (v := .int .i64 k) (some 7) rfl rfl (by kernel_rfl) (by kernel_rfl) (by kernel_rfl) (fun _ _ _ h => h) (Or.inl ⟨by rfl, ?_⟩) hS0 ?_
        · rintro w' _
          go_simp
        try simp only [Act.put, List.setIfInBounds_toArray, List.set_cons_zero, List.set_cons_succ]
        refine takeD (i := 1) (v := .pointer (some ⟨m, 0, none⟩)) (some 8) rfl rfl (by kernel_rfl) (by kernel_rfl) (by kernel_rfl) (fun _ _ _ h => h) (Or.inl ⟨by rfl, ?_⟩) hS0 ?_
        · rintro w' _
          go_simp
        try simp only [Act.put, List.setIfInBounds_toArray, List.set_cons_zero, List.set_cons_succ]
        refine takeD (i := 2) (v := .pointer (some ⟨m, 0, none⟩)) (some 9) rfl rfl (by kernel_rfl) (by kernel_rfl) (by kernel_rfl) (fun _ _ _ h => h) (Or.inl ⟨by rfl, ?_⟩) hS0 ?_
        · rintro w' _
          go_simp
        try simp only [Act.put, List.setIfInBounds_toArray, List.set_cons_zero, List.set_cons_succ]
        refine takeD (i := 3) (v := .pointer (some ⟨m, 0, none⟩)) (some 10) rfl rfl (by kernel_rfl) (by kernel_rfl) (by kernel_rfl) (fun _ _ _ h => h) (Or.inl ⟨by rfl, ?_⟩) hS0 ?_
        · rintro w' _
          go_simp
        try simp only [Act.put, List.setIfInBounds_toArray, List.set_cons_zero, List.set_cons_succ]
        refine takeD (i := 4) (v := .slice (some ⟨g1, 0, none⟩) n c) (some 11) rfl rfl (by kernel_rfl) (by kernel_rfl) (by kernel_rfl) (fun _ _ _ h => h) (Or.inl ⟨by rfl, ?_⟩) hS0 ?_
        · rintro w' s0
          have c0 := Vb.cell s0.1 0 rfl
          go_simp
        try simp only [Act.put, List.setIfInBounds_toArray, List.set_cons_zero, List.set_cons_succ]
        refine takeD (i := 5) (v := .int .i64 n) (some 12) rfl rfl (by kernel_rfl) (by kernel_rfl) (by kernel_rfl) (fun _ _ _ h => h) (Or.inl ⟨by rfl, ?_⟩) hS0 ?_
        · rintro w' _
          go_simp
        try simp only [Act.put, List.setIfInBounds_toArray, List.set_cons_zero, List.set_cons_succ]
        refine takeD (i := 6) (v := .bool true) (some 13) rfl rfl (by kernel_rfl) (by kernel_rfl) (by kernel_rfl) (fun _ _ _ h => h) (Or.inl ⟨by rfl, ?_⟩) hS0 ?_
        · rintro w' _
          go_simp
        try simp only [Act.put, List.setIfInBounds_toArray, List.set_cons_zero, List.set_cons_succ]
        refine takeD (i := 7) (v := .bool true) (some 14) rfl rfl (by kernel_rfl) (by kernel_rfl) (by kernel_rfl) (fun _ _ _ h => h) (Or.inl ⟨by rfl, ?_⟩) hS0 ?_
        · rintro w' _
          go_simp
        try simp only [Act.put, List.setIfInBounds_toArray, List.set_cons_zero, List.set_cons_succ]
        refine takeD (i := 8) (v := .pointer (some ⟨m, 0, none⟩)) (some 15) rfl rfl (by kernel_rfl) (by kernel_rfl) (by kernel_rfl) (fun _ _ _ h => h) (Or.inl ⟨by rfl, ?_⟩) hS0 ?_
        · rintro w' _
          go_simp
        try simp only [Act.put, List.setIfInBounds_toArray, List.set_cons_zero, List.set_cons_succ]
        refine takeD (i := 9) (v := .pointer (some ⟨m, 0, none⟩)) (some 16) rfl rfl (by kernel_rfl) (by kernel_rfl) (by kernel_rfl) (fun _ _ _ h => h) (Or.inl ⟨by rfl, ?_⟩) hS0 ?_
        · rintro w' _
          go_simp
        try simp only [Act.put, List.setIfInBounds_toArray, List.set_cons_zero, List.set_cons_succ]
        refine takeD (i := 10) (v := .pointer (some ⟨m, 0, none⟩)) (some 17) rfl rfl (by kernel_rfl) (by kernel_rfl) (by kernel_rfl) (fun _ _ _ h => h) (Or.inl ⟨by rfl, ?_⟩) hS0 ?_
        · rintro w' _
          go_simp
        try simp only [Act.put, List.setIfInBounds_toArray, List.set_cons_zero, List.set_cons_succ]
        refine takeD (i := 11) (v := .slice (some ⟨g1, 0, none⟩) n c) (some 18) rfl rfl (by kernel_rfl) (by kernel_rfl) (by kernel_rfl) (fun _ _ _ h => h) (Or.inl ⟨by rfl, ?_⟩) hS0 ?_
        · rintro w' s0
          have c0 := Vb.cell s0.1 0 rfl
          go_simp
        try simp only [Act.put, List.setIfInBounds_toArray, List.set_cons_zero, List.set_cons_succ]
        refine takeD (i := 12) (v := .int .i64 k) (some 19) rfl rfl (by kernel_rfl) (by kernel_rfl) (by kernel_rfl) (fun _ _ _ h => h) (Or.inl ⟨by rfl, ?_⟩) hS0 ?_
        · rintro w' _
          go_simp
        try simp only [Act.put, List.setIfInBounds_toArray, List.set_cons_zero, List.set_cons_succ]
        refine takeD (i := 13) (v := .pointer (some ⟨g1, k * 13, none⟩)) (some 20) rfl rfl (by kernel_rfl) (by kernel_rfl) (by kernel_rfl) (fun _ _ _ h => h) (Or.inl ⟨by rfl, ?_⟩) hS0 ?_
        · rintro w' _
          go_simp
        try simp only [Act.put, List.setIfInBounds_toArray, List.set_cons_zero, List.set_cons_succ]
        refine takeD (i := 14) (v := .agg #[.int .i64 y.r.k, .int .i64 y.r.pr, .int .i64 y.r.to, .int .i64 y.r.po, .int .i64 y.r.x.v, .int .i64 y.r.x.m, .int .u8 y.r.x.b0, .int .u8 y.r.x.b1, .int .u8 y.r.x.b2, .int .u8 y.r.x.i0, .int .u8 y.r.x.i1, .int .u8 y.r.x.i2, .slice y.A y.r.os.length y.c]) (some 21) rfl rfl (by kernel_rfl) (by kernel_rfl) (by kernel_rfl) (fun _ _ _ h => h) (Or.inl ⟨by rfl, ?_⟩) hS0 ?_
        · rintro w' ⟨_, s0, _⟩
          have d0 := Vb.cell s0 (k * 13) (q0.trans rfl)
          have d1 := Vb.cell s0 (k * 13 + 1) (q1.trans rfl)
          have d2 := Vb.cell s0 (k * 13 + 2) (q2.trans rfl)
          have d3 := Vb.cell s0 (k * 13 + 3) (q3.trans rfl)
          have d4 := Vb.cell s0 (k * 13 + 4) (q4.trans rfl)
          have d5 := Vb.cell s0 (k * 13 + 5) (q5.trans rfl)
          have d6 := Vb.cell s0 (k * 13 + 6) (q6.trans rfl)
          have d7 := Vb.cell s0 (k * 13 + 7) (q7.trans rfl)
          have d8 := Vb.cell s0 (k * 13 + 8) (q8.trans rfl)
          have d9 := Vb.cell s0 (k * 13 + 9) (q9.trans rfl)
          have d10 := Vb.cell s0 (k * 13 + 10) (q10.trans rfl)
          have d11 := Vb.cell s0 (k * 13 + 11) (q11.trans rfl)
          have d12 := Vb.cell s0 (k * 13 + 12) (q12.trans rfl)
          go_simp
        try simp only [Act.put, List.setIfInBounds_toArray, List.set_cons_zero, List.set_cons_succ]
        refine takeD (i := 15) (v := .agg #[.int .i64 p.r.k, .int .i64 p.r.pr, .int .i64 p.r.to, .int .i64 p.r.po, .int .i64 p.r.x.v, .int .i64 p.r.x.m, .int .u8 p.r.x.b0, .int .u8 p.r.x.b1, .int .u8 p.r.x.b2, .int .u8 p.r.x.i0, .int .u8 p.r.x.i1, .int .u8 p.r.x.i2, .slice p.A p.r.os.length p.c]) (some 22) rfl rfl (by kernel_rfl) (by kernel_rfl) (by kernel_rfl) (fun _ _ _ h => h) (Or.inl ⟨by rfl, ?_⟩) hS0 ?_
        · rintro w' ⟨_, _, s0⟩
          obtain ⟨d0, d1, d2, d3, d4, d5, d6, d7, d8, d9, d10, d11, d12⟩ := s0.c13
          go_simp
        try simp only [Act.put, List.setIfInBounds_toArray, List.set_cons_zero, List.set_cons_succ]
        refine wpAnyH_ready (rs := [16]) (by kernel_rfl) (by simp) ?_
        refine AllReadyH.cons rfl (fun K hK => ?_) AllReadyH.nil
        try rw [if_pos (by rfl)]
        go_simp
        go_at_call 122
        refine (HCM.out _).mono ?_
        rintro e u1 ⟨rfl, hb1⟩
        have hS1 : (fun W => Vb 121 W m [.slice (some ⟨g1, 0, none⟩) n c, .int .i64 room] ∧ Rowb W g1 R1 ∧ Vb 31 W gp [.int .i64 p.r.k, .int .i64 p.r.pr, .int .i64 p.r.to, .int .i64 p.r.po, .int .i64 p.r.x.v, .int .i64 p.r.x.m, .int .u8 p.r.x.b0, .int .u8 p.r.x.b1, .int .u8 p.r.x.b2, .int .u8 p.r.x.i0, .int .u8 p.r.x.i1, .int .u8 p.r.x.i2, .slice p.A p.r.os.length p.c]) u1 := ⟨Vb.below hS0.1 hb1 (Vb.lt hS0.1), Vb.below hS0.2.1 hb1 (Vb.lt hS0.2.1), Vb.below hS0.2.2 hb1 (Vb.lt hS0.2.2)⟩
        have hbe := hbd.trans (hb1.mono hbd.size)
        refine hK.out _ _ hS1 (fun _ => ?_)
        clear hK K hb1 hbd hS0
        try simp only [Act.put, List.setIfInBounds_toArray, List.set_cons_zero, List.set_cons_succ]
        refine takeD (i := 17) (v := .bool true) (some 24) rfl rfl (by kernel_rfl) (by kernel_rfl) (by kernel_rfl) (fun _ _ _ h => h) (Or.inl ⟨by rfl, ?_⟩) hS1 ?_
        · rintro w' _
          go_simp
        try simp only [Act.put, List.setIfInBounds_toArray, List.set_cons_zero, List.set_cons_succ]
        refine takeD (i := 18) (v := .bool true) (some 25) rfl rfl (by kernel_rfl) (by kernel_rfl) (by kernel_rfl) (fun _ _ _ h => h) (Or.inl ⟨by rfl, ?_⟩) hS1 ?_
        · rintro w' _
          go_simp
        try simp only [Act.put, List.setIfInBounds_toArray, List.set_cons_zero, List.set_cons_succ]
        refine wpAnyH_done (by kernel_rfl) ?_ _
        clear hS1 hneg q0 q1 q2 q3 q4 q5 q6 q7 q8 q9 q10 q11 q12 hyz
        go_wp2_with fail
        go_roundw
        case rel => exact ⟨k + 1, by go_num, by omega, hbe⟩
        case measure => simp [intOf]; omega
      · have hneg : ¬ cmpR y.r p.r < 0 := fun hh => hlo ((HI.out k y HY.out).1 hh)
        obtain rfl : k = lo := by omega
        go_upto_region 2 with fail
        have hS0 : (fun W => Vb 121 W m [.slice (some ⟨g1, 0, none⟩) n c, .int .i64 room] ∧ Rowb W g1 R1 ∧ Vb 31 W gp [.int .i64 p.r.k, .int .i64 p.r.pr, .int .i64 p.r.to, .int .i64 p.r.po, .int .i64 p.r.x.v, .int .i64 p.r.x.m, .int .u8 p.r.x.b0, .int .u8 p.r.x.b1, .int .u8 p.r.x.b2, .int .u8 p.r.x.i0, .int .u8 p.r.x.i1, .int .u8 p.r.x.i2, .slice p.A p.r.os.length p.c]) wr.drew := ⟨hblk, hrow, hv⟩
        have hbd := hbx.drew
        refine wp_region_held_drew (S := fun W => Vb 121 W m [.slice (some ⟨g1, 0, none⟩) n c, .int .i64 room] ∧ Rowb W g1 R1 ∧ Vb 31 W gp [.int .i64 p.r.k, .int .i64 p.r.pr, .int .i64 p.r.to, .int .i64 p.r.po, .int .i64 p.r.x.v, .int .i64 p.r.x.m, .int .u8 p.r.x.b0, .int .u8 p.r.x.b1, .int .u8 p.r.x.b2, .int .u8 p.r.x.i0, .int .u8 p.r.x.i1, .int .u8 p.r.x.i2, .slice p.A p.r.os.length p.c]) (by kernel_rfl) hS0 (fun _ => ?_)
        clear hbx
        generalize wr.drew = u0 at *
        clear hblk hrow hv hbw
        refine takeD (i := 0) (v := .int .i64 k) (some 7) rfl rfl (by kernel_rfl) (by kernel_rfl) (by kernel_rfl) (fun _ _ _ h => h) (Or.inl ⟨by rfl, ?_⟩) hS0 ?_
        · rintro w' _
          go_simp
        try simp only [Act.put, List.setIfInBounds_toArray, List.set_cons_zero, List.set_cons_succ]
        refine takeD (i := 1) (v := .pointer (some ⟨m, 0, none⟩)) (some 8) rfl rfl (by kernel_rfl) (by kernel_rfl) (by kernel_rfl) (fun _ _ _ h => h) (Or.inl ⟨by rfl, ?_⟩) hS0 ?_
        · rintro w' _
          go_simp
        try simp only [Act.put, List.setIfInBounds_toArray, List.set_cons_zero, List.set_cons_succ]
        refine takeD (i := 2) (v := .pointer (some ⟨m, 0, none⟩)) (some 9) rfl rfl (by kernel_rfl) (by kernel_rfl) (by kernel_rfl) (fun _ _ _ h => h) (Or.inl ⟨by rfl, ?_⟩) hS0 ?_
        · rintro w' _
          go_simp
        try simp only [Act.put, List.setIfInBounds_toArray, List.set_cons_zero, List.set_cons_succ]
        refine takeD (i := 3) (v := .pointer (some ⟨m, 0, none⟩)) (some 10) rfl rfl (by kernel_rfl) (by kernel_rfl) (by kernel_rfl) (fun _ _ _ h => h) (Or.inl ⟨by rfl, ?_⟩) hS0 ?_
        · rintro w' _
          go_simp
        try simp only [Act.put, List.setIfInBounds_toArray, List.set_cons_zero, List.set_cons_succ]
        refine takeD (i := 4) (v := .slice (some ⟨g1, 0, none⟩) n c) (some 11) rfl rfl (by kernel_rfl) (by kernel_rfl) (by kernel_rfl) (fun _ _ _ h => h) (Or.inl ⟨by rfl, ?_⟩) hS0 ?_
        · rintro w' s0
          have c0 := Vb.cell s0.1 0 rfl
          go_simp
        try simp only [Act.put, List.setIfInBounds_toArray, List.set_cons_zero, List.set_cons_succ]
        refine takeD (i := 5) (v := .int .i64 n) (some 12) rfl rfl (by kernel_rfl) (by kernel_rfl) (by kernel_rfl) (fun _ _ _ h => h) (Or.inl ⟨by rfl, ?_⟩) hS0 ?_
        · rintro w' _
          go_simp
        try simp only [Act.put, List.setIfInBounds_toArray, List.set_cons_zero, List.set_cons_succ]
        refine takeD (i := 6) (v := .bool true) (some 13) rfl rfl (by kernel_rfl) (by kernel_rfl) (by kernel_rfl) (fun _ _ _ h => h) (Or.inl ⟨by rfl, ?_⟩) hS0 ?_
        · rintro w' _
          go_simp
        try simp only [Act.put, List.setIfInBounds_toArray, List.set_cons_zero, List.set_cons_succ]
        refine takeD (i := 7) (v := .bool true) (some 14) rfl rfl (by kernel_rfl) (by kernel_rfl) (by kernel_rfl) (fun _ _ _ h => h) (Or.inl ⟨by rfl, ?_⟩) hS0 ?_
        · rintro w' _
          go_simp
        try simp only [Act.put, List.setIfInBounds_toArray, List.set_cons_zero, List.set_cons_succ]
        refine takeD (i := 8) (v := .pointer (some ⟨m, 0, none⟩)) (some 15) rfl rfl (by kernel_rfl) (by kernel_rfl) (by kernel_rfl) (fun _ _ _ h => h) (Or.inl ⟨by rfl, ?_⟩) hS0 ?_
        · rintro w' _
          go_simp
        try simp only [Act.put, List.setIfInBounds_toArray, List.set_cons_zero, List.set_cons_succ]
        refine takeD (i := 9) (v := .pointer (some ⟨m, 0, none⟩)) (some 16) rfl rfl (by kernel_rfl) (by kernel_rfl) (by kernel_rfl) (fun _ _ _ h => h) (Or.inl ⟨by rfl, ?_⟩) hS0 ?_
        · rintro w' _
          go_simp
        try simp only [Act.put, List.setIfInBounds_toArray, List.set_cons_zero, List.set_cons_succ]
        refine takeD (i := 10) (v := .pointer (some ⟨m, 0, none⟩)) (some 17) rfl rfl (by kernel_rfl) (by kernel_rfl) (by kernel_rfl) (fun _ _ _ h => h) (Or.inl ⟨by rfl, ?_⟩) hS0 ?_
        · rintro w' _
          go_simp
        try simp only [Act.put, List.setIfInBounds_toArray, List.set_cons_zero, List.set_cons_succ]
        refine takeD (i := 11) (v := .slice (some ⟨g1, 0, none⟩) n c) (some 18) rfl rfl (by kernel_rfl) (by kernel_rfl) (by kernel_rfl) (fun _ _ _ h => h) (Or.inl ⟨by rfl, ?_⟩) hS0 ?_
        · rintro w' s0
          have c0 := Vb.cell s0.1 0 rfl
          go_simp
        try simp only [Act.put, List.setIfInBounds_toArray, List.set_cons_zero, List.set_cons_succ]
        refine takeD (i := 12) (v := .int .i64 k) (some 19) rfl rfl (by kernel_rfl) (by kernel_rfl) (by kernel_rfl) (fun _ _ _ h => h) (Or.inl ⟨by rfl, ?_⟩) hS0 ?_
        · rintro w' _
          go_simp
        try simp only [Act.put, List.setIfInBounds_toArray, List.set_cons_zero, List.set_cons_succ]
        refine takeD (i := 13) (v := .pointer (some ⟨g1, k * 13, none⟩)) (some 20) rfl rfl (by kernel_rfl) (by kernel_rfl) (by kernel_rfl) (fun _ _ _ h => h) (Or.inl ⟨by rfl, ?_⟩) hS0 ?_
        · rintro w' _
          go_simp
        try simp only [Act.put, List.setIfInBounds_toArray, List.set_cons_zero, List.set_cons_succ]
        refine takeD (i := 14) (v := .agg #[.int .i64 y.r.k, .int .i64 y.r.pr, .int .i64 y.r.to, .int .i64 y.r.po, .int .i64 y.r.x.v, .int .i64 y.r.x.m, .int .u8 y.r.x.b0, .int .u8 y.r.x.b1, .int .u8 y.r.x.b2, .int .u8 y.r.x.i0, .int .u8 y.r.x.i1, .int .u8 y.r.x.i2, .slice y.A y.r.os.length y.c]) (some 21) rfl rfl (by kernel_rfl) (by kernel_rfl) (by kernel_rfl) (fun _ _ _ h => h) (Or.inl ⟨by rfl, ?_⟩) hS0 ?_
        · rintro w' ⟨_, s0, _⟩
          have d0 := Vb.cell s0 (k * 13) (q0.trans rfl)
          have d1 := Vb.cell s0 (k * 13 + 1) (q1.trans rfl)
          have d2 := Vb.cell s0 (k * 13 + 2) (q2.trans rfl)
          have d3 := Vb.cell s0 (k * 13 + 3) (q3.trans rfl)
          have d4 := Vb.cell s0 (k * 13 + 4) (q4.trans rfl)
          have d5 := Vb.cell s0 (k * 13 + 5) (q5.trans rfl)
          have d6 := Vb.cell s0 (k * 13 + 6) (q6.trans rfl)
          have d7 := Vb.cell s0 (k * 13 + 7) (q7.trans rfl)
          have d8 := Vb.cell s0 (k * 13 + 8) (q8.trans rfl)
          have d9 := Vb.cell s0 (k * 13 + 9) (q9.trans rfl)
          have d10 := Vb.cell s0 (k * 13 + 10) (q10.trans rfl)
          have d11 := Vb.cell s0 (k * 13 + 11) (q11.trans rfl)
          have d12 := Vb.cell s0 (k * 13 + 12) (q12.trans rfl)
          go_simp
        try simp only [Act.put, List.setIfInBounds_toArray, List.set_cons_zero, List.set_cons_succ]
        refine takeD (i := 15) (v := .agg #[.int .i64 p.r.k, .int .i64 p.r.pr, .int .i64 p.r.to, .int .i64 p.r.po, .int .i64 p.r.x.v, .int .i64 p.r.x.m, .int .u8 p.r.x.b0, .int .u8 p.r.x.b1, .int .u8 p.r.x.b2, .int .u8 p.r.x.i0, .int .u8 p.r.x.i1, .int .u8 p.r.x.i2, .slice p.A p.r.os.length p.c]) (some 22) rfl rfl (by kernel_rfl) (by kernel_rfl) (by kernel_rfl) (fun _ _ _ h => h) (Or.inl ⟨by rfl, ?_⟩) hS0 ?_
        · rintro w' ⟨_, _, s0⟩
          obtain ⟨d0, d1, d2, d3, d4, d5, d6, d7, d8, d9, d10, d11, d12⟩ := s0.c13
          go_simp
        try simp only [Act.put, List.setIfInBounds_toArray, List.set_cons_zero, List.set_cons_succ]
        refine wpAnyH_ready (rs := [16]) (by kernel_rfl) (by simp) ?_
        refine AllReadyH.cons rfl (fun K hK => ?_) AllReadyH.nil
        try rw [if_pos (by rfl)]
        go_simp
        go_at_call 122
        refine (HCM.out _).mono ?_
        rintro e u1 ⟨rfl, hb1⟩
        have hS1 : (fun W => Vb 121 W m [.slice (some ⟨g1, 0, none⟩) n c, .int .i64 room] ∧ Rowb W g1 R1 ∧ Vb 31 W gp [.int .i64 p.r.k, .int .i64 p.r.pr, .int .i64 p.r.to, .int .i64 p.r.po, .int .i64 p.r.x.v, .int .i64 p.r.x.m, .int .u8 p.r.x.b0, .int .u8 p.r.x.b1, .int .u8 p.r.x.b2, .int .u8 p.r.x.i0, .int .u8 p.r.x.i1, .int .u8 p.r.x.i2, .slice p.A p.r.os.length p.c]) u1 := ⟨Vb.below hS0.1 hb1 (Vb.lt hS0.1), Vb.below hS0.2.1 hb1 (Vb.lt hS0.2.1), Vb.below hS0.2.2 hb1 (Vb.lt hS0.2.2)⟩
        have hbe := hbd.trans (hb1.mono hbd.size)
        refine hK.out _ _ hS1 (fun _ => ?_)
        clear hK K hb1 hbd hS0
        try simp only [Act.put, List.setIfInBounds_toArray, List.set_cons_zero, List.set_cons_succ]
        refine takeD (i := 17) (v := .bool false) (some 24) rfl rfl (by kernel_rfl) (by kernel_rfl) (by kernel_rfl) (fun _ _ _ h => h) (Or.inl ⟨by rfl, ?_⟩) hS1 ?_
        · rintro w' _
          go_simp
        try simp only [Act.put, List.setIfInBounds_toArray, List.set_cons_zero, List.set_cons_succ]
        refine takeD (i := 18) (v := .bool false) (some 25) rfl rfl (by kernel_rfl) (by kernel_rfl) (by kernel_rfl) (fun _ _ _ h => h) (Or.inl ⟨by rfl, ?_⟩) hS1 ?_
        · rintro w' _
          go_simp
        try simp only [Act.put, List.setIfInBounds_toArray, List.set_cons_zero, List.set_cons_succ]
        refine wpAnyH_done (by kernel_rfl) ?_ _
        have hbx := hbe
        have hT := hS1
        clear hS1 hbe
        go_upto_region 4 with fail
        have hS0 : (fun W => Vb 121 W m [.slice (some ⟨g1, 0, none⟩) n c, .int .i64 room] ∧ Rowb W g1 R1 ∧ Vb 31 W gp [.int .i64 p.r.k, .int .i64 p.r.pr, .int .i64 p.r.to, .int .i64 p.r.po, .int .i64 p.r.x.v, .int .i64 p.r.x.m, .int .u8 p.r.x.b0, .int .u8 p.r.x.b1, .int .u8 p.r.x.b2, .int .u8 p.r.x.i0, .int .u8 p.r.x.i1, .int .u8 p.r.x.i2, .slice p.A p.r.os.length p.c]) u1.drew := ⟨hT.1, hT.2.1, hT.2.2⟩
        have hbd := hbx.drew
        refine wp_region_held_drew (S := fun W => Vb 121 W m [.slice (some ⟨g1, 0, none⟩) n c, .int .i64 room] ∧ Rowb W g1 R1 ∧ Vb 31 W gp [.int .i64 p.r.k, .int .i64 p.r.pr, .int .i64 p.r.to, .int .i64 p.r.po, .int .i64 p.r.x.v, .int .i64 p.r.x.m, .int .u8 p.r.x.b0, .int .u8 p.r.x.b1, .int .u8 p.r.x.b2, .int .u8 p.r.x.i0, .int .u8 p.r.x.i1, .int .u8 p.r.x.i2, .slice p.A p.r.os.length p.c]) (by kernel_rfl) hS0 (fun _ => ?_)
        clear hbx
        generalize u1.drew = u0 at *
        clear hT
        refine takeD (i := 0) (v := .int .i64 k) (some 28) rfl rfl (by kernel_rfl) (by kernel_rfl) (by kernel_rfl) (fun _ _ _ h => h) (Or.inl ⟨by rfl, ?_⟩) hS0 ?_
        · rintro w' _
          go_simp
        try simp only [Act.put, List.setIfInBounds_toArray, List.set_cons_zero, List.set_cons_succ]
        refine takeD (i := 1) (v := .int .i64 k) (some 29) rfl rfl (by kernel_rfl) (by kernel_rfl) (by kernel_rfl) (fun _ _ _ h => h) (Or.inl ⟨by rfl, ?_⟩) hS0 ?_
        · rintro w' _
          go_simp
        try simp only [Act.put, List.setIfInBounds_toArray, List.set_cons_zero, List.set_cons_succ]
        refine takeD (i := 2) (v := .pointer (some ⟨m, 0, none⟩)) (some 30) rfl rfl (by kernel_rfl) (by kernel_rfl) (by kernel_rfl) (fun _ _ _ h => h) (Or.inl ⟨by rfl, ?_⟩) hS0 ?_
        · rintro w' _
          go_simp
        try simp only [Act.put, List.setIfInBounds_toArray, List.set_cons_zero, List.set_cons_succ]
        refine takeD (i := 3) (v := .pointer (some ⟨m, 0, none⟩)) (some 31) rfl rfl (by kernel_rfl) (by kernel_rfl) (by kernel_rfl) (fun _ _ _ h => h) (Or.inl ⟨by rfl, ?_⟩) hS0 ?_
        · rintro w' _
          go_simp
        try simp only [Act.put, List.setIfInBounds_toArray, List.set_cons_zero, List.set_cons_succ]
        refine takeD (i := 4) (v := .pointer (some ⟨m, 0, none⟩)) (some 32) rfl rfl (by kernel_rfl) (by kernel_rfl) (by kernel_rfl) (fun _ _ _ h => h) (Or.inl ⟨by rfl, ?_⟩) hS0 ?_
        · rintro w' _
          go_simp
        try simp only [Act.put, List.setIfInBounds_toArray, List.set_cons_zero, List.set_cons_succ]
        refine takeD (i := 5) (v := .slice (some ⟨g1, 0, none⟩) n c) (some 33) rfl rfl (by kernel_rfl) (by kernel_rfl) (by kernel_rfl) (fun _ _ _ h => h) (Or.inl ⟨by rfl, ?_⟩) hS0 ?_
        · rintro w' s0
          have c0 := Vb.cell s0.1 0 rfl
          go_simp
        try simp only [Act.put, List.setIfInBounds_toArray, List.set_cons_zero, List.set_cons_succ]
        refine takeD (i := 6) (v := .int .i64 n) (some 34) rfl rfl (by kernel_rfl) (by kernel_rfl) (by kernel_rfl) (fun _ _ _ h => h) (Or.inl ⟨by rfl, ?_⟩) hS0 ?_
        · rintro w' _
          go_simp
        try simp only [Act.put, List.setIfInBounds_toArray, List.set_cons_zero, List.set_cons_succ]
        refine takeD (i := 7) (v := .bool true) (some 35) rfl rfl (by kernel_rfl) (by kernel_rfl) (by kernel_rfl) (fun _ _ _ h => h) (Or.inl ⟨by rfl, ?_⟩) hS0 ?_
        · rintro w' _
          go_simp
        try simp only [Act.put, List.setIfInBounds_toArray, List.set_cons_zero, List.set_cons_succ]
        refine takeD (i := 8) (v := .bool true) (some 36) rfl rfl (by kernel_rfl) (by kernel_rfl) (by kernel_rfl) (fun _ _ _ h => h) (Or.inl ⟨by rfl, ?_⟩) hS0 ?_
        · rintro w' _
          go_simp
        try simp only [Act.put, List.setIfInBounds_toArray, List.set_cons_zero, List.set_cons_succ]
        refine takeD (i := 9) (v := .pointer (some ⟨m, 0, none⟩)) (some 37) rfl rfl (by kernel_rfl) (by kernel_rfl) (by kernel_rfl) (fun _ _ _ h => h) (Or.inl ⟨by rfl, ?_⟩) hS0 ?_
        · rintro w' _
          go_simp
        try simp only [Act.put, List.setIfInBounds_toArray, List.set_cons_zero, List.set_cons_succ]
        refine takeD (i := 10) (v := .pointer (some ⟨m, 0, none⟩)) (some 38) rfl rfl (by kernel_rfl) (by kernel_rfl) (by kernel_rfl) (fun _ _ _ h => h) (Or.inl ⟨by rfl, ?_⟩) hS0 ?_
        · rintro w' _
          go_simp
        try simp only [Act.put, List.setIfInBounds_toArray, List.set_cons_zero, List.set_cons_succ]
        refine takeD (i := 11) (v := .pointer (some ⟨m, 0, none⟩)) (some 39) rfl rfl (by kernel_rfl) (by kernel_rfl) (by kernel_rfl) (fun _ _ _ h => h) (Or.inl ⟨by rfl, ?_⟩) hS0 ?_
        · rintro w' _
          go_simp
        try simp only [Act.put, List.setIfInBounds_toArray, List.set_cons_zero, List.set_cons_succ]
        refine takeD (i := 12) (v := .slice (some ⟨g1, 0, none⟩) n c) (some 40) rfl rfl (by kernel_rfl) (by kernel_rfl) (by kernel_rfl) (fun _ _ _ h => h) (Or.inl ⟨by rfl, ?_⟩) hS0 ?_
        · rintro w' s0
          have c0 := Vb.cell s0.1 0 rfl
          go_simp
        try simp only [Act.put, List.setIfInBounds_toArray, List.set_cons_zero, List.set_cons_succ]
        refine takeD (i := 13) (v := .int .i64 k) (some 41) rfl rfl (by kernel_rfl) (by kernel_rfl) (by kernel_rfl) (fun _ _ _ h => h) (Or.inl ⟨by rfl, ?_⟩) hS0 ?_
        · rintro w' _
          go_simp
        try simp only [Act.put, List.setIfInBounds_toArray, List.set_cons_zero, List.set_cons_succ]
        refine takeD (i := 14) (v := .pointer (some ⟨g1, k * 13, none⟩)) (some 42) rfl rfl (by kernel_rfl) (by kernel_rfl) (by kernel_rfl) (fun _ _ _ h => h) (Or.inl ⟨by rfl, ?_⟩) hS0 ?_
        · rintro w' _
          go_simp
        try simp only [Act.put, List.setIfInBounds_toArray, List.set_cons_zero, List.set_cons_succ]
        refine takeD (i := 15) (v := .agg #[.int .i64 y.r.k, .int .i64 y.r.pr, .int .i64 y.r.to, .int .i64 y.r.po, .int .i64 y.r.x.v, .int .i64 y.r.x.m, .int .u8 y.r.x.b0, .int .u8 y.r.x.b1, .int .u8 y.r.x.b2, .int .u8 y.r.x.i0, .int .u8 y.r.x.i1, .int .u8 y.r.x.i2, .slice y.A y.r.os.length y.c]) (some 43) rfl rfl (by kernel_rfl) (by kernel_rfl) (by kernel_rfl) (fun _ _ _ h => h) (Or.inl ⟨by rfl, ?_⟩) hS0 ?_
        · rintro w' ⟨_, s0, _⟩
          have d0 := Vb.cell s0 (k * 13) (q0.trans rfl)
          have d1 := Vb.cell s0 (k * 13 + 1) (q1.trans rfl)
          have d2 := Vb.cell s0 (k * 13 + 2) (q2.trans rfl)
          have d3 := Vb.cell s0 (k * 13 + 3) (q3.trans rfl)
          have d4 := Vb.cell s0 (k * 13 + 4) (q4.trans rfl)
          have d5 := Vb.cell s0 (k * 13 + 5) (q5.trans rfl)
          have d6 := Vb.cell s0 (k * 13 + 6) (q6.trans rfl)
          have d7 := Vb.cell s0 (k * 13 + 7) (q7.trans rfl)
          have d8 := Vb.cell s0 (k * 13 + 8) (q8.trans rfl)
          have d9 := Vb.cell s0 (k * 13 + 9) (q9.trans rfl)
          have d10 := Vb.cell s0 (k * 13 + 10) (q10.trans rfl)
          have d11 := Vb.cell s0 (k * 13 + 11) (q11.trans rfl)
          have d12 := Vb.cell s0 (k * 13 + 12) (q12.trans rfl)
          go_simp
        try simp only [Act.put, List.setIfInBounds_toArray, List.set_cons_zero, List.set_cons_succ]
        refine takeD (i := 16) (v := .agg #[.int .i64 p.r.k, .int .i64 p.r.pr, .int .i64 p.r.to, .int .i64 p.r.po, .int .i64 p.r.x.v, .int .i64 p.r.x.m, .int .u8 p.r.x.b0, .int .u8 p.r.x.b1, .int .u8 p.r.x.b2, .int .u8 p.r.x.i0, .int .u8 p.r.x.i1, .int .u8 p.r.x.i2, .slice p.A p.r.os.length p.c]) (some 44) rfl rfl (by kernel_rfl) (by kernel_rfl) (by kernel_rfl) (fun _ _ _ h => h) (Or.inl ⟨by rfl, ?_⟩) hS0 ?_
        · rintro w' ⟨_, _, s0⟩
          obtain ⟨d0, d1, d2, d3, d4, d5, d6, d7, d8, d9, d10, d11, d12⟩ := s0.c13
          go_simp
        try simp only [Act.put, List.setIfInBounds_toArray, List.set_cons_zero, List.set_cons_succ]
        refine wpAnyH_ready (rs := [17]) (by kernel_rfl) (by simp) ?_
        refine AllReadyH.cons rfl (fun K hK => ?_) AllReadyH.nil
        try rw [if_pos (by rfl)]
        go_simp
        go_at_call 122
        refine (HCM.out _).mono ?_
        rintro e u1 ⟨rfl, hb1⟩
        have hS1 : (fun W => Vb 121 W m [.slice (some ⟨g1, 0, none⟩) n c, .int .i64 room] ∧ Rowb W g1 R1 ∧ Vb 31 W gp [.int .i64 p.r.k, .int .i64 p.r.pr, .int .i64 p.r.to, .int .i64 p.r.po, .int .i64 p.r.x.v, .int .i64 p.r.x.m, .int .u8 p.r.x.b0, .int .u8 p.r.x.b1, .int .u8 p.r.x.b2, .int .u8 p.r.x.i0, .int .u8 p.r.x.i1, .int .u8 p.r.x.i2, .slice p.A p.r.os.length p.c]) u1 := ⟨Vb.below hS0.1 hb1 (Vb.lt hS0.1), Vb.below hS0.2.1 hb1 (Vb.lt hS0.2.1), Vb.below hS0.2.2 hb1 (Vb.lt hS0.2.2)⟩
        have hbe := hbd.trans (hb1.mono hbd.size)
        refine hK.out _ _ hS1 (fun _ => ?_)
        clear hK K hb1 hbd hS0
        try simp only [Act.put, List.setIfInBounds_toArray, List.set_cons_zero, List.set_cons_succ]
        refine takeD (i := 18) (v := .bool (decide (cmpR y.r p.r = 0))) (some 46) rfl rfl (by kernel_rfl) (by kernel_rfl) (by kernel_rfl) (fun _ _ _ h => h) (Or.inl ⟨by rfl, ?_⟩) hS1 ?_
        · rintro w' _
          have he : (cmpR y.r p.r == 0) = decide (cmpR y.r p.r = 0) := by by_cases h : cmpR y.r p.r = 0 <;> simp [h]
          go_simp
        try simp only [Act.put, List.setIfInBounds_toArray, List.set_cons_zero, List.set_cons_succ]
        refine takeD (i := 19) (v := .bool (decide (cmpR y.r p.r = 0))) (some 47) rfl rfl (by kernel_rfl) (by kernel_rfl) (by kernel_rfl) (fun _ _ _ h => h) (Or.inl ⟨by rfl, ?_⟩) hS1 ?_
        · rintro w' _
          go_simp
        try simp only [Act.put, List.setIfInBounds_toArray, List.set_cons_zero, List.set_cons_succ]
        refine takeD (i := 20) (v := .int .i64 k) (some 4) rfl rfl (by kernel_rfl) (by kernel_rfl) (by kernel_rfl) (fun _ _ _ h => h) (Or.inl ⟨by rfl, ?_⟩) hS1 ?_
        · rintro w' _
          go_simp
        try simp only [Act.put, List.setIfInBounds_toArray, List.set_cons_zero, List.set_cons_succ]
        refine takeD (i := 21) (v := .bool (decide (cmpR y.r p.r = 0))) (some 5) rfl rfl (by kernel_rfl) (by kernel_rfl) (by kernel_rfl) (fun _ _ _ h => h) (Or.inl ⟨by rfl, ?_⟩) hS1 ?_
        · rintro w' _
          go_simp
        try simp only [Act.put, List.setIfInBounds_toArray, List.set_cons_zero, List.set_cons_succ]
        refine wpAnyH_done (by kernel_rfl) ?_ _
        have HEY := Kp.mk (HE.out y HY.out)
        clear hS1 hneg q0 q1 q2 q3 q4 q5 q6 q7 q8 q9 q10 q11 q12 hyz
        go_wp2_with fail
        go_ret2
        exact ⟨by rw [HEY.out]; rfl, HB.out.trans (hbe.mono HB.out.size)⟩
    obtain rfl : k = lo := by omega
    have HFF := Kp.mk (HF.out (by omega))
    have hbx := hbw
    go_upto_region 2 with fail
    have hS0 : (fun W => Vb 121 W m [.slice A n c, .int .i64 room]) wr.drew := hblk
    have hbd := hbx.drew
    refine wp_region_held_drew (S := fun W => Vb 121 W m [.slice A n c, .int .i64 room]) (by kernel_rfl) hS0 (fun _ => ?_)
    clear hbx
    generalize wr.drew = u0 at *
    clear hblk hrow hv hbw
    refine takeD (i := 0) (v := .int .i64 k) (some 7) rfl rfl (by kernel_rfl) (by kernel_rfl) (by kernel_rfl) (fun _ _ _ h => h) (Or.inl ⟨by rfl, ?_⟩) hS0 ?_
    · rintro w' _
      go_simp
    try simp only [Act.put, List.setIfInBounds_toArray, List.set_cons_zero, List.set_cons_succ]
    refine takeD (i := 1) (v := .pointer (some ⟨m, 0, none⟩)) (some 8) rfl rfl (by kernel_rfl) (by kernel_rfl) (by kernel_rfl) (fun _ _ _ h => h) (Or.inl ⟨by rfl, ?_⟩) hS0 ?_
    · rintro w' _
      go_simp
    try simp only [Act.put, List.setIfInBounds_toArray, List.set_cons_zero, List.set_cons_succ]
    refine takeD (i := 2) (v := .pointer (some ⟨m, 0, none⟩)) (some 9) rfl rfl (by kernel_rfl) (by kernel_rfl) (by kernel_rfl) (fun _ _ _ h => h) (Or.inl ⟨by rfl, ?_⟩) hS0 ?_
    · rintro w' _
      go_simp
    try simp only [Act.put, List.setIfInBounds_toArray, List.set_cons_zero, List.set_cons_succ]
    refine takeD (i := 3) (v := .pointer (some ⟨m, 0, none⟩)) (some 10) rfl rfl (by kernel_rfl) (by kernel_rfl) (by kernel_rfl) (fun _ _ _ h => h) (Or.inl ⟨by rfl, ?_⟩) hS0 ?_
    · rintro w' _
      go_simp
    try simp only [Act.put, List.setIfInBounds_toArray, List.set_cons_zero, List.set_cons_succ]
    refine takeD (i := 4) (v := .slice A n c) (some 11) rfl rfl (by kernel_rfl) (by kernel_rfl) (by kernel_rfl) (fun _ _ _ h => h) (Or.inl ⟨by rfl, ?_⟩) hS0 ?_
    · rintro w' s0
      have c0 := Vb.cell s0 0 rfl
      go_simp
    try simp only [Act.put, List.setIfInBounds_toArray, List.set_cons_zero, List.set_cons_succ]
    refine takeD (i := 5) (v := .int .i64 n) (some 12) rfl rfl (by kernel_rfl) (by kernel_rfl) (by kernel_rfl) (fun _ _ _ h => h) (Or.inl ⟨by rfl, ?_⟩) hS0 ?_
    · rintro w' _
      go_simp
    try simp only [Act.put, List.setIfInBounds_toArray, List.set_cons_zero, List.set_cons_succ]
    refine takeD (i := 6) (v := .bool false) (some 13) rfl rfl (by kernel_rfl) (by kernel_rfl) (by kernel_rfl) (fun _ _ _ h => h) (Or.inl ⟨by rfl, ?_⟩) hS0 ?_
    · rintro w' _
      go_simp
    try simp only [Act.put, List.setIfInBounds_toArray, List.set_cons_zero, List.set_cons_succ]
    refine takeD (i := 7) (v := .bool false) (some 14) rfl rfl (by kernel_rfl) (by kernel_rfl) (by kernel_rfl) (fun _ _ _ h => h) (Or.inl ⟨by rfl, ?_⟩) hS0 ?_
    · rintro w' _
      go_simp
    try simp only [Act.put, List.setIfInBounds_toArray, List.set_cons_zero, List.set_cons_succ]
    refine takeD (i := 8) (v := undef) (some 15) rfl rfl (by kernel_rfl) (by kernel_rfl) (by kernel_rfl) (fun _ _ _ h => h) (Or.inr ⟨by rfl, rfl⟩) hS0 ?_
    try simp only [Act.put, List.setIfInBounds_toArray, List.set_cons_zero, List.set_cons_succ]
    refine takeD (i := 9) (v := undef) (some 16) rfl rfl (by kernel_rfl) (by kernel_rfl) (by kernel_rfl) (fun _ _ _ h => h) (Or.inr ⟨by rfl, rfl⟩) hS0 ?_
    try simp only [Act.put, List.setIfInBounds_toArray, List.set_cons_zero, List.set_cons_succ]
    refine takeD (i := 10) (v := undef) (some 17) rfl rfl (by kernel_rfl) (by kernel_rfl) (by kernel_rfl) (fun _ _ _ h => h) (Or.inr ⟨by rfl, rfl⟩) hS0 ?_
    try simp only [Act.put, List.setIfInBounds_toArray, List.set_cons_zero, List.set_cons_succ]
    refine takeD (i := 11) (v := undef) (some 18) rfl rfl (by kernel_rfl) (by kernel_rfl) (by kernel_rfl) (fun _ _ _ h => h) (Or.inr ⟨by rfl, rfl⟩) hS0 ?_
    try simp only [Act.put, List.setIfInBounds_toArray, List.set_cons_zero, List.set_cons_succ]
    refine takeD (i := 12) (v := undef) (some 19) rfl rfl (by kernel_rfl) (by kernel_rfl) (by kernel_rfl) (fun _ _ _ h => h) (Or.inr ⟨by rfl, rfl⟩) hS0 ?_
    try simp only [Act.put, List.setIfInBounds_toArray, List.set_cons_zero, List.set_cons_succ]
    refine takeD (i := 13) (v := undef) (some 20) rfl rfl (by kernel_rfl) (by kernel_rfl) (by kernel_rfl) (fun _ _ _ h => h) (Or.inr ⟨by rfl, rfl⟩) hS0 ?_
    try simp only [Act.put, List.setIfInBounds_toArray, List.set_cons_zero, List.set_cons_succ]
    refine takeD (i := 14) (v := undef) (some 21) rfl rfl (by kernel_rfl) (by kernel_rfl) (by kernel_rfl) (fun _ _ _ h => h) (Or.inr ⟨by rfl, rfl⟩) hS0 ?_
    try simp only [Act.put, List.setIfInBounds_toArray, List.set_cons_zero, List.set_cons_succ]
    refine takeD (i := 15) (v := undef) (some 22) rfl rfl (by kernel_rfl) (by kernel_rfl) (by kernel_rfl) (fun _ _ _ h => h) (Or.inr ⟨by rfl, rfl⟩) hS0 ?_
    try simp only [Act.put, List.setIfInBounds_toArray, List.set_cons_zero, List.set_cons_succ]
    refine takeD (i := 16) (v := undef) (some 23) rfl rfl (by kernel_rfl) (by kernel_rfl) (by kernel_rfl) (fun _ _ _ h => h) (Or.inr ⟨by rfl, rfl⟩) hS0 ?_
    try simp only [Act.put, List.setIfInBounds_toArray, List.set_cons_zero, List.set_cons_succ]
    refine takeD (i := 17) (v := undef) (some 24) rfl rfl (by kernel_rfl) (by kernel_rfl) (by kernel_rfl) (fun _ _ _ h => h) (Or.inr ⟨by rfl, rfl⟩) hS0 ?_
    try simp only [Act.put, List.setIfInBounds_toArray, List.set_cons_zero, List.set_cons_succ]
    refine takeD (i := 18) (v := .bool false) (some 25) rfl rfl (by kernel_rfl) (by kernel_rfl) (by kernel_rfl) (fun _ _ _ h => h) (Or.inl ⟨by rfl, ?_⟩) hS0 ?_
    · rintro w' _
      go_simp
    try simp only [Act.put, List.setIfInBounds_toArray, List.set_cons_zero, List.set_cons_succ]
    refine wpAnyH_done (by kernel_rfl) ?_ _
    have hbx := hbd
    have hT := hS0
    clear hS0 hbd
    go_upto_region 4 with fail
    have hS0 : (fun W => Vb 121 W m [.slice A n c, .int .i64 room]) u0.drew := hT
    have hbd := hbx.drew
    refine wp_region_held_drew (S := fun W => Vb 121 W m [.slice A n c, .int .i64 room]) (by kernel_rfl) hS0 (fun _ => ?_)
    clear hbx
    generalize u0.drew = u0 at *
    clear hT
    refine takeD (i := 0) (v := .int .i64 k) (some 28) rfl rfl (by kernel_rfl) (by kernel_rfl) (by kernel_rfl) (fun _ _ _ h => h) (Or.inl ⟨by rfl, ?_⟩) hS0 ?_
    · rintro w' _
      go_simp
    try simp only [Act.put, List.setIfInBounds_toArray, List.set_cons_zero, List.set_cons_succ]
    refine takeD (i := 1) (v := .int .i64 k) (some 29) rfl rfl (by kernel_rfl) (by kernel_rfl) (by kernel_rfl) (fun _ _ _ h => h) (Or.inl ⟨by rfl, ?_⟩) hS0 ?_
    · rintro w' _
      go_simp
    try simp only [Act.put, List.setIfInBounds_toArray, List.set_cons_zero, List.set_cons_succ]
    refine takeD (i := 2) (v := .pointer (some ⟨m, 0, none⟩)) (some 30) rfl rfl (by kernel_rfl) (by kernel_rfl) (by kernel_rfl) (fun _ _ _ h => h) (Or.inl ⟨by rfl, ?_⟩) hS0 ?_
    · rintro w' _
      go_simp
    try simp only [Act.put, List.setIfInBounds_toArray, List.set_cons_zero, List.set_cons_succ]
    refine takeD (i := 3) (v := .pointer (some ⟨m, 0, none⟩)) (some 31) rfl rfl (by kernel_rfl) (by kernel_rfl) (by kernel_rfl) (fun _ _ _ h => h) (Or.inl ⟨by rfl, ?_⟩) hS0 ?_
    · rintro w' _
      go_simp
    try simp only [Act.put, List.setIfInBounds_toArray, List.set_cons_zero, List.set_cons_succ]
    refine takeD (i := 4) (v := .pointer (some ⟨m, 0, none⟩)) (some 32) rfl rfl (by kernel_rfl) (by kernel_rfl) (by kernel_rfl) (fun _ _ _ h => h) (Or.inl ⟨by rfl, ?_⟩) hS0 ?_
    · rintro w' _
      go_simp
    try simp only [Act.put, List.setIfInBounds_toArray, List.set_cons_zero, List.set_cons_succ]
    refine takeD (i := 5) (v := .slice A n c) (some 33) rfl rfl (by kernel_rfl) (by kernel_rfl) (by kernel_rfl) (fun _ _ _ h => h) (Or.inl ⟨by rfl, ?_⟩) hS0 ?_
    · rintro w' s0
      have c0 := Vb.cell s0 0 rfl
      go_simp
    try simp only [Act.put, List.setIfInBounds_toArray, List.set_cons_zero, List.set_cons_succ]
    refine takeD (i := 6) (v := .int .i64 n) (some 34) rfl rfl (by kernel_rfl) (by kernel_rfl) (by kernel_rfl) (fun _ _ _ h => h) (Or.inl ⟨by rfl, ?_⟩) hS0 ?_
    · rintro w' _
      go_simp
    try simp only [Act.put, List.setIfInBounds_toArray, List.set_cons_zero, List.set_cons_succ]
    refine takeD (i := 7) (v := .bool false) (some 35) rfl rfl (by kernel_rfl) (by kernel_rfl) (by kernel_rfl) (fun _ _ _ h => h) (Or.inl ⟨by rfl, ?_⟩) hS0 ?_
    · rintro w' _
      go_simp
    try simp only [Act.put, List.setIfInBounds_toArray, List.set_cons_zero, List.set_cons_succ]
    refine takeD (i := 8) (v := .bool false) (some 36) rfl rfl (by kernel_rfl) (by kernel_rfl) (by kernel_rfl) (fun _ _ _ h => h) (Or.inl ⟨by rfl, ?_⟩) hS0 ?_
    · rintro w' _
      go_simp
    try simp only [Act.put, List.setIfInBounds_toArray, List.set_cons_zero, List.set_cons_succ]
    refine takeD (i := 9) (v := undef) (some 37) rfl rfl (by kernel_rfl) (by kernel_rfl) (by kernel_rfl) (fun _ _ _ h => h) (Or.inr ⟨by rfl, rfl⟩) hS0 ?_
    try simp only [Act.put, List.setIfInBounds_toArray, List.set_cons_zero, List.set_cons_succ]
    refine takeD (i := 10) (v := undef) (some 38) rfl rfl (by kernel_rfl) (by kernel_rfl) (by kernel_rfl) (fun _ _ _ h => h) (Or.inr ⟨by rfl, rfl⟩) hS0 ?_
    try simp only [Act.put, List.setIfInBounds_toArray, List.set_cons_zero, List.set_cons_succ]
    refine takeD (i := 11) (v := undef) (some 39) rfl rfl (by kernel_rfl) (by kernel_rfl) (by kernel_rfl) (fun _ _ _ h => h) (Or.inr ⟨by rfl, rfl⟩) hS0 ?_
    try simp only [Act.put, List.setIfInBounds_toArray, List.set_cons_zero, List.set_cons_succ]
    refine takeD (i := 12) (v := undef) (some 40) rfl rfl (by kernel_rfl) (by kernel_rfl) (by kernel_rfl) (fun _ _ _ h => h) (Or.inr ⟨by rfl, rfl⟩) hS0 ?_
    try simp only [Act.put, List.setIfInBounds_toArray, List.set_cons_zero, List.set_cons_succ]
    refine takeD (i := 13) (v := undef) (some 41) rfl rfl (by kernel_rfl) (by kernel_rfl) (by kernel_rfl) (fun _ _ _ h => h) (Or.inr ⟨by rfl, rfl⟩) hS0 ?_
    try simp only [Act.put, List.setIfInBounds_toArray, List.set_cons_zero, List.set_cons_succ]
    refine takeD (i := 14) (v := undef) (some 42) rfl rfl (by kernel_rfl) (by kernel_rfl) (by kernel_rfl) (fun _ _ _ h => h) (Or.inr ⟨by rfl, rfl⟩) hS0 ?_
    try simp only [Act.put, List.setIfInBounds_toArray, List.set_cons_zero, List.set_cons_succ]
    refine takeD (i := 15) (v := undef) (some 43) rfl rfl (by kernel_rfl) (by kernel_rfl) (by kernel_rfl) (fun _ _ _ h => h) (Or.inr ⟨by rfl, rfl⟩) hS0 ?_
    try simp only [Act.put, List.setIfInBounds_toArray, List.set_cons_zero, List.set_cons_succ]
    refine takeD (i := 16) (v := undef) (some 44) rfl rfl (by kernel_rfl) (by kernel_rfl) (by kernel_rfl) (fun _ _ _ h => h) (Or.inr ⟨by rfl, rfl⟩) hS0 ?_
    try simp only [Act.put, List.setIfInBounds_toArray, List.set_cons_zero, List.set_cons_succ]
    refine takeD (i := 17) (v := undef) (some 45) rfl rfl (by kernel_rfl) (by kernel_rfl) (by kernel_rfl) (fun _ _ _ h => h) (Or.inr ⟨by rfl, rfl⟩) hS0 ?_
    try simp only [Act.put, List.setIfInBounds_toArray, List.set_cons_zero, List.set_cons_succ]
    refine takeD (i := 18) (v := undef) (some 46) rfl rfl (by kernel_rfl) (by kernel_rfl) (by kernel_rfl) (fun _ _ _ h => h) (Or.inr ⟨by rfl, rfl⟩) hS0 ?_
    try simp only [Act.put, List.setIfInBounds_toArray, List.set_cons_zero, List.set_cons_succ]
    refine takeD (i := 19) (v := .bool false) (some 47) rfl rfl (by kernel_rfl) (by kernel_rfl) (by kernel_rfl) (fun _ _ _ h => h) (Or.inl ⟨by rfl, ?_⟩) hS0 ?_
    · rintro w' _
      go_simp
    try simp only [Act.put, List.setIfInBounds_toArray, List.set_cons_zero, List.set_cons_succ]
    refine takeD (i := 20) (v := .int .i64 k) (some 4) rfl rfl (by kernel_rfl) (by kernel_rfl) (by kernel_rfl) (fun _ _ _ h => h) (Or.inl ⟨by rfl, ?_⟩) hS0 ?_
    · rintro w' _
      go_simp
    try simp only [Act.put, List.setIfInBounds_toArray, List.set_cons_zero, List.set_cons_succ]
    refine takeD (i := 21) (v := .bool false) (some 5) rfl rfl (by kernel_rfl) (by kernel_rfl) (by kernel_rfl) (fun _ _ _ h => h) (Or.inl ⟨by rfl, ?_⟩) hS0 ?_
    · rintro w' _
      go_simp
    try simp only [Act.put, List.setIfInBounds_toArray, List.set_cons_zero, List.set_cons_succ]
    refine wpAnyH_done (by kernel_rfl) ?_ _
    clear hS0
    go_wp2_with fail
    go_ret2
    exact ⟨by rw [HFF.out]; rfl, HB.out.trans (hbd.mono HB.out.size)⟩
end
end Go.Proofs.Ytcolklkjaifplaa.Oct

namespace Go.Proofs.Ytcolklkjaifplaa.Oct
open Go.RowKit
set_option linter.unusedVariables false
set_option linter.unusedSimpArgs false

theorem okR_gd {r : RuleV} (h : okR r) (hm : MB r.x) : Gd r := ⟨fun hk => by
  rcases h with h | h
  · have := h.2.1; unfold within at this; exact this
  · have := h.1; omega, hm⟩
section
variable {w w' : World} {m : Nat} {v : Value} {room : Int} {its : List It}
theorem RowS.pre {A : Option Addr} {n c : Nat} (h : RowS w (.slice A n c) its) {k : Nat} (hk : k ≤ its.length) : SrcR w A k (its.take k) := by
  refine ⟨by rw [List.length_take]; omega, ?_⟩
  rcases h with ⟨e, rfl⟩ | ⟨g, ys, e, hr, hm⟩
  · obtain ⟨rfl, _, _⟩ := Value.slice.inj e
    exact .inl ⟨rfl, by simpa using hk⟩
  · obtain ⟨rfl, _, _⟩ := Value.slice.inj e
    exact .inr ⟨g, 0, its ++ ys, by simp, hr, by simp; omega, by rw [List.drop_zero, List.take_append_of_le_length hk]⟩
theorem RowS.post {g n c : Nat} (h : RowS w (.slice (some ⟨g, 0, none⟩) n c) its) {k j : Nat} (hk : k ≤ its.length) (hj : j = k ∨ (its.length = k ∧ j = 0)) : SrcR w (some ⟨g, j * 13, none⟩) (its.length - k) (its.drop k) := by
  refine ⟨by rw [List.length_drop], ?_⟩
  rcases h with ⟨e, _⟩ | ⟨g', ys, e, hr, hm⟩
  · simp at e
  · obtain ⟨e1, _, _⟩ := Value.slice.inj e
    have e1 := Option.some.inj e1
    injection e1 with e1 _ _
    subst e1
    refine .inr ⟨g, j, its ++ ys, rfl, hr, ?_, ?_⟩
    · rw [List.length_append]; rcases hj with rfl | ⟨h1, rfl⟩ <;> omega
    · rcases hj with rfl | ⟨h1, rfl⟩
      · rw [List.drop_append_of_le_length hk, List.take_append_of_le_length (by rw [List.length_drop]; omega), List.take_of_length_le (by rw [List.length_drop]; omega)]
      · rw [h1, Nat.sub_self, List.take_zero, List.drop_eq_nil_of_le (by omega)]
theorem Ob.mtab {x : It} {cs : List Value} (h : Ob w x) (hv : Vb 121 w m cs) (hg : w.grownBy w' (some m)) : Ob w' x :=
  h.keep hg.size fun b cur hc => hg.block b (Array.getElem?_eq_some_iff.1 hc).1 (fun e => by
    have e := Option.some.inj e
    subst e
    rw [show w.heap[b]? = _ from hv] at hc
    have hc := Option.some.inj hc
    injection hc with _ h2 _
    exact absurd h2 (by decide))
theorem RowS.mtab {cs : List Value} (h : RowS w v its) (hv : Vb 121 w m cs) (hg : w.grownBy w' (some m)) : RowS w' v its := by
  refine h.keep fun k hk => ?_
  obtain ⟨_, ys, hr⟩ := h.lt k hk
  exact hg.block k (Vb.lt hr) (fun e => vb_ne hr hv (by decide) (Option.some.inj e))
/-- A new row is stored into the table. -/
theorem mt_store {w1 : World} {v2 : Value} {its2 : List It} (h : Mt w m v room its) (hb : Below w.heap.size w w1) (hr : RowS w1 v2 its2) (ho : ∀ x ∈ its2, Ob w1 x) (hn : ∀ k, v2.ownBlock = some k → w.heap.size ≤ k) : Mt (w1.setCell ⟨m, 0, none⟩ v2) m v2 room its2 ∧ Fr2 m v.ownBlock w (w1.setCell ⟨m, 0, none⟩ v2) ∧ Nw w v v2 := by
  have hv := h.blk.below hb h.blk.lt
  have hg := grownBy_set w1 m 0 v2
  exact ⟨⟨hv.set 0 v2, hr.mtab hv hg, fun x hx => (ho x hx).mtab hv hg⟩, (Fr2.of_below hb).trans (Fr2.of_grown' hg) (.inl rfl), fun k hk => .inr (hn k hk)⟩
theorem grown_none {w w1 : World} (hg : w.grownBy w1 (Value.slice none 0 0).ownBlock) : Below w.heap.size w w1 := (Below.refl _ _).grown hg (Nat.le_refl _) (fun k e => by simp [Value.ownBlock] at e)
set_option maxRecDepth 100000 in
set_option maxHeartbeats 8000000 in
theorem mDel {B : Nat} (h : Mt w m v room its) (hS : Srt (rls its)) (hl : its.length ≤ 1000) (hlr : (its.length : Int) ≤ room) (hG : ∀ x ∈ its, Gd x.r) (x : It) (hx : Ro w B x.A x.r.os.length x.c x.r.os) (hB : B ≤ w.heap.size) (hxl : x.r.os.length ≤ 1000000000) (hm : MB x.r.x) : Calls Try.prog 91 #[.pointer (some ⟨m, 0, none⟩), .agg (ics x).toArray] w fun e w' => ∃ v' its', e = .returned (.int .i64 (delE x.r (rls its))) ∧ rls its' = delL x.r (rls its) ∧ Mt w' m v' room its' ∧ Fr2 m v.ownBlock w w' ∧ Nw w v v' ∧ (∀ X : Nat → Prop, (∀ y ∈ its, Liv X y) → (∀ b, w.heap.size ≤ b → X b) → ∀ y ∈ its', Liv X y) := by
  have hb0 := below_alloc w (.cells (ics x).toArray 31)
  have hv := Vb.new 31 w (ics x)
  have h1 := h.below hb0
  have hx1 := hx.below' hb0 hB
  have hB1 : B ≤ (w.alloc (.cells (ics x).toArray 31)).heap.size := by have := hb0.size; omega
  have HM0 := Kp.mk (show m < w.heap.size from h.blk.lt)
  have HT := Kp.mk (fun (w1 : World) (hb : Below w.heap.size w w1) => h.below hb)
  have HST := Kp.mk (fun (w1 : World) (v2 : Value) (its2 : List It) (hb : Below w.heap.size w w1) => mt_store (v2 := v2) (its2 := its2) h hb)
  obtain ⟨dE, hde⟩ : ∃ dE, dE = delE x.r (rls its) := ⟨_, rfl⟩
  obtain ⟨dL, hdl⟩ : ∃ dL, dL = delL x.r (rls its) := ⟨_, rfl⟩
  rw [← hde, ← hdl]
  have HE := Kp.mk hde
  have HL := Kp.mk hdl
  clear hde hdl
  have l1 := Kp.mk (lo_hi (r := x.r) hS)
  have l2 := Kp.mk (hi_lo (r := x.r) hS)
  have l3 := Kp.mk (hi_le (r := x.r) (l := rls its))
  have HX := Kp.mk (fun (W : World) (hb : Below w.heap.size w W) => hx.below' hb hB)
  have HGX := Kp.mk (fun hc : checkR x.r = 0 => okR_gd ((checkR_zero x.r).1 hc) hm)
  have HXL := Kp.mk hxl
  have HLL := Kp.mk hl
  have HLR := Kp.mk hlr
  have HBK := Kp.mk hB
  have HOW := Kp.mk (fun q (hq : v.ownBlock = some q) => (h.row.lt q hq).1)
  clear h hx hxl hm hl hlr hB
  go_enter Try.func91, Try.ntmps91
  go_upto_region 1 with fail
  generalize w.alloc (.cells (ics x).toArray 31) = w0 at *
  have HCk := Kp.mk (refCheck8_any x hx1 hB1)
  go_upto_region 2 with (first | refine wpList_load_vb (vs := ics x) rfl (.tmp 3) rfl rfl hv rfl agg_rule ?_ | (refine HCk.out.mono ?_; rintro e w1 ⟨rfl, hb1⟩))
  have h2 := h1.below hb1
  have hv2 := hv.below hb1 hv.lt
  have hBl := hb0.trans (hb1.mono hb0.size)
  clear hv HCk hx1 hB1 hb1 h1 hb0
  by_cases hck : checkR x.r = 0
  rotate_left
  · have HE2 := Kp.mk (show dE = checkR x.r by rw [HE.out]; unfold delE; rw [if_neg hck])
    have HL2 := Kp.mk (show dL = rls its by rw [HL.out]; unfold delL delE; rw [if_neg hck, if_neg hck])
    have hck' : (checkR x.r != 0) = true := by simpa using hck
    have HFB := Kp.mk (Fr2.of_below (t := m) (r := v.ownBlock) hBl)
    clear HE HL
    go_wp2_with fail
    go_ret
    exact ⟨v, its, by rw [HE2.out]; rfl, HL2.out.symm, h2, HFB.out, fun k hk => .inl hk, fun X h _ => h⟩
  have HAT := Kp.mk (mAt h2 hS hG x (HGX.out hck))
  have hck' : (checkR x.r != 0) = false := by simpa using hck
  have HCK := Kp.mk hck
  go_upto_region 4 with fail
  clear hck' hck
  go_upto_region 5 with (refine wpList_load_vb (vs := ics x) rfl (.tmp 3) rfl rfl hv2 rfl agg_rule ?_)
  refine HAT.out.mono ?_
  rintro e w2 ⟨rfl, hb2⟩
  have hB2 := hBl.trans (hb2.mono hBl.size)
  have hv3 := hv2.below hb2 hv2.lt
  clear h2 hv2 hBl hb2 HAT hS hG
  by_cases hlh : loP x.r (rls its) < hiP x.r (rls its)
  rotate_left
  · have HE2 := Kp.mk (show dE = 91 by rw [HE.out]; unfold delE; rw [if_pos HCK.out, if_pos (by have := l1.out; omega)])
    have HL2 := Kp.mk (show dL = rls its by rw [HL.out]; unfold delL; rw [if_neg (by rw [← HE.out, HE2.out]; omega)])
    have n0 : decide (loP x.r (rls its) < hiP x.r (rls its)) = false := decide_eq_false hlh
    have HMT := Kp.mk (HT.out _ hB2)
    have HFB := Kp.mk (Fr2.of_below (t := m) (r := v.ownBlock) hB2)
    generalize decide (loP x.r (rls its) < hiP x.r (rls its)) = isb at *
    subst n0
    clear HE HL hlh
    go_wp2_with fail
    go_ret
    exact ⟨v, its, by rw [HE2.out]; rfl, HL2.out.symm, HMT.out, HFB.out, fun k hk => .inl hk, fun X h _ => h⟩
  have HE2 := Kp.mk (show dE = 0 by rw [HE.out]; unfold delE; rw [if_pos HCK.out, if_neg (by omega)])
  have HL2 := Kp.mk (show dL = (rls its).take (loP x.r (rls its)) ++ (rls its).drop (loP x.r (rls its) + 1) by
    rw [HL.out]; unfold delL; rw [if_pos (by rw [← HE.out, HE2.out])]; unfold tdel; rw [show hiP x.r (rls its) = loP x.r (rls its) + 1 by have := l2.out; omega])
  have n0 : decide (loP x.r (rls its) < hiP x.r (rls its)) = true := decide_eq_true hlh
  have hkn : loP x.r (rls its) < its.length := by have := l3.out; rw [rls_len] at this; omega
  generalize decide (loP x.r (rls its) < hiP x.r (rls its)) = isb at *
  subst n0
  clear HE HL hlh l1 l2 l3 HGX HX
  generalize loP x.r (rls its) = k at *
  have hT2 := HT.out _ hB2
  have hrow := hT2.row
  obtain ⟨A, c, rfl, _, hc1, hc2, _⟩ := hrow.form
  rcases A with _ | ⟨g1, o1, s1⟩
  · exfalso
    rcases hrow with ⟨_, e0⟩ | ⟨_, _, e, _⟩
    · rw [e0] at hkn; simp at hkn
    · simp at e
  obtain ⟨rfl, rfl⟩ : o1 = 0 ∧ s1 = none := by
    rcases hrow with ⟨e, _⟩ | ⟨g, ys, e, _⟩
    · simp at e
    · obtain ⟨e1, _, _⟩ := Value.slice.inj e
      have e1 := Option.some.inj e1
      injection e1 with _ e2 e3
      exact ⟨e2, e3⟩
  obtain ⟨n, hn⟩ : ∃ n, n = its.length := ⟨_, rfl⟩
  have HN := Kp.mk hn
  have hblk := hT2.blk
  rw [← hn] at hblk hrow hc1 hkn
  have hn1 : n ≤ 1000 := by have := HLL.out; omega
  have HRW := Kp.mk hrow
  have HB2 := Kp.mk hB2
  have hs1 := hrow.pre (k := k) (by omega)
  obtain ⟨v8, w8, hrun8, hR8, hg8, hN8⟩ := run_appendR (c := c) 39 (RowS.nil w2) hs1 (by simp; omega)
  have hb8 := grown_none hg8
  have c0 := hblk.cell 0 rfl
  have hblk8 := hblk.below hb8 hblk.lt
  have hrow8 := hrow.below hb8
  clear hn hs1 hrow
  go_upto_region 9 with (at_builtin; refine Lib.wpList_append_run _ rfl _ _ _ _ rfl _ _ rfl rfl _ _ hrun8 ?_)
  have c8 := hblk8.cell 0 rfl
  clear c0 hrun8 hT2
  have HR8 := Kp.mk hR8
  have HN8 := Kp.mk (show ∀ q, v8.ownBlock = some q → w2.heap.size ≤ q from fun q hq => by
    rcases hN8 with e | ⟨q2, e, h2⟩
    · rw [e] at hq; simp [Value.ownBlock] at hq
    · rw [e] at hq; have := Option.some.inj hq; omega)
  clear hN8 hg8 hblk8
  by_cases hck2 : c = k + 1
  · have hnk : n = k + 1 := by omega
    obtain ⟨v9, w9, hrun9, hR9, hg9, hN9⟩ := run_appendR (c := c - (k + 1)) 39 HR8.out (hrow8.post (k := k + 1) (j := 0) (by have := HN.out; omega) (by have := HN.out; omega)) (by have := HN.out; simp; omega)
    rw [← HN.out, Nat.zero_mul, show n - (k + 1) = 0 by omega, show c - (k + 1) = 0 by omega] at hrun9
    obtain ⟨A9, d9, hv9, _⟩ := hR9.form
    obtain ⟨L9, hL9⟩ : ∃ L, L = ([] ++ its.take k ++ its.drop (k + 1)).length := ⟨_, rfl⟩
    rw [← hL9] at hv9
    clear hL9
    subst hv9
    have hb9 := hb8.grown hg9 hb8.size (fun q e => HN8.out q e)
    have hB9 := HB2.out.trans (hb9.mono HB2.out.size)
    have HN9 := Kp.mk (show ∀ q, (Value.slice A9 L9 d9).ownBlock = some q → w.heap.size ≤ q from fun q hq => by
      have := HB2.out.size
      rcases hN9 with e | ⟨q2, e, h2⟩
      · have := HN8.out q (e ▸ hq); omega
      · rw [e] at hq; have := Option.some.inj hq; have := hb8.size; omega)
    have HF9 := Kp.mk (HST.out w9 (.slice A9 L9 d9) _ hB9 hR9 (fun y hy => by
      have hyi : y ∈ its := by
        rcases List.mem_append.1 hy with hy | hy
        · rw [List.nil_append] at hy; exact List.mem_of_mem_take hy
        · exact List.mem_of_mem_drop hy
      exact (HT.out _ hB9).outs y hyi) HN9.out)
    have hblk9 := (HT.out _ hB9).blk
    have hf9 := hblk9.free
    have c9 := hblk9.cell 0 rfl
    have HB9 := Kp.mk hB9
    clear hb9 hB9 hR9 hg9 hN9 hblk9 hb8 hrow8
    go_wp2_with (at_builtin; refine Lib.wpList_append_run _ rfl _ _ _ _ rfl _ _ rfl rfl _ _ hrun9 ?_)
    go_ret
    refine ⟨.slice A9 L9 d9, _, by rw [HE2.out]; rfl, ?_, HF9.out.1, HF9.out.2.1, HF9.out.2.2, fun X h1 _ y hy => ?_⟩
    · rw [HL2.out]; simp [rls]
    · rcases List.mem_append.1 hy with hy | hy
      · rw [List.nil_append] at hy; exact h1 y (List.mem_of_mem_take hy)
      · exact h1 y (List.mem_of_mem_drop hy)
  · skip
    obtain ⟨v9, w9, hrun9, hR9, hg9, hN9⟩ := run_appendR (c := c - (k + 1)) 39 HR8.out (hrow8.post (k := k + 1) (j := k + 1) (by have := HN.out; omega) (by have := HN.out; omega)) (by have := HN.out; simp; omega)
    rw [← HN.out] at hrun9
    obtain ⟨A9, d9, hv9, _⟩ := hR9.form
    obtain ⟨L9, hL9⟩ : ∃ L, L = ([] ++ its.take k ++ its.drop (k + 1)).length := ⟨_, rfl⟩
    rw [← hL9] at hv9
    clear hL9
    subst hv9
    have hb9 := hb8.grown hg9 hb8.size (fun q e => HN8.out q e)
    have hB9 := HB2.out.trans (hb9.mono HB2.out.size)
    have HN9 := Kp.mk (show ∀ q, (Value.slice A9 L9 d9).ownBlock = some q → w.heap.size ≤ q from fun q hq => by
      have := HB2.out.size
      rcases hN9 with e | ⟨q2, e, h2⟩
      · have := HN8.out q (e ▸ hq); omega
      · rw [e] at hq; have := Option.some.inj hq; have := hb8.size; omega)
    have HF9 := Kp.mk (HST.out w9 (.slice A9 L9 d9) _ hB9 hR9 (fun y hy => by
      have hyi : y ∈ its := by
        rcases List.mem_append.1 hy with hy | hy
        · rw [List.nil_append] at hy; exact List.mem_of_mem_take hy
        · exact List.mem_of_mem_drop hy
      exact (HT.out _ hB9).outs y hyi) HN9.out)
    have hblk9 := (HT.out _ hB9).blk
    have hf9 := hblk9.free
    have c9 := hblk9.cell 0 rfl
    have HB9 := Kp.mk hB9
    clear hb9 hB9 hR9 hg9 hN9 hblk9 hb8 hrow8
    go_wp2_with (at_builtin; refine Lib.wpList_append_run _ rfl _ _ _ _ rfl _ _ rfl rfl _ _ hrun9 ?_)
    go_ret
    refine ⟨.slice A9 L9 d9, _, by rw [HE2.out]; rfl, ?_, HF9.out.1, HF9.out.2.1, HF9.out.2.2, fun X h1 _ y hy => ?_⟩
    · rw [HL2.out]; simp [rls]
    · rcases List.mem_append.1 hy with hy | hy
      · rw [List.nil_append] at hy; exact h1 y (List.mem_of_mem_take hy)
      · exact h1 y (List.mem_of_mem_drop hy)
theorem Ob.rowed2 {w w' : World} {x : It} {v : Value} {us : List It} (h : Ob w x) (hr : RowS w v us) (hg : w.grownBy w' v.ownBlock) : Ob w' x := h.rowed hr hg
theorem Ob.row2 {w w1 w2 : World} {x : It} {v : Value} {us us1 : List It} (h : Ob w1 x) (_ : RowS w v us) (_ : Below w.heap.size w w1) (hr : RowS w1 v us1) (hg : w1.grownBy w2 v.ownBlock) : Ob w2 x := h.rowed hr hg
theorem wp_storeR {w : World} {g k : Nat} {R : List It} {z : It} {o : Oper} {a : Act} {K : Act → World → Prop} {Q : Exit → Act → World → Prop} (d : Option Tmp) (hd : o.dst = d) (x y : Operand) (ho : o.op = .store 31 x y) (hx : a.eval x = .pointer (some ⟨g, k * 13, none⟩)) (hy : a.eval y = .agg (ics z).toArray) (hr : Rowb w g R) (hk : k < R.length)
    (h : ∀ w', Rowb w' g (R.take k ++ [z] ++ R.drop (k + 1)) → w.grownBy w' (some g) → K (a.put d undef) w') : o.wp Try.prog a w K Q := by
  subst hd
  obtain ⟨w', hst, h1, h2, h3⟩ := hr.store k 1 [z] rfl (by omega)
  rw [show [z].flatMap ics = ics z by simp] at hst
  have hi : (Try.prog.info? 31).map (·.size) = some 13 := agg_rule.2
  have hrun : (storeVar 31 ⟨g, k * 13, none⟩ (.agg (ics z).toArray)).run Try.prog w = .ok () w' := by
    cases hq : Try.prog.info? 31 with
    | none => simp [hq] at hi
    | some i =>
      have hs : (ics z).length = i.size := by simp [hq] at hi; rw [hi]; rfl
      simp [storeVar, sizeOf, typeInfo, hq, Value.cells, hs, hst]
  unfold Oper.wp execOp
  simp only [ho, hx, hy, Instr.storeAt, Instr.sureAddr, Sem.run_bind, Sem.run_pure, Result.andThen_ok, hrun]
  exact h _ h1 h2
set_option maxRecDepth 100000 in
set_option maxHeartbeats 8000000 in
theorem mAdd {B : Nat} (h : Mt w m v room its) (hS : Srt (rls its)) (hl : its.length ≤ 1000) (hlr : (its.length : Int) ≤ room) (hG : ∀ x ∈ its, Gd x.r) (x : It) (hx : Ro w B x.A x.r.os.length x.c x.r.os) (hB : B ≤ w.heap.size) (hxl : x.r.os.length ≤ 1000000000) (hm : MB x.r.x) : Calls Try.prog 90 #[.pointer (some ⟨m, 0, none⟩), .agg (ics x).toArray] w fun e w' => ∃ v' its', e = .returned (.int .i64 (addE room x.r (rls its))) ∧ rls its' = addL room x.r (rls its) ∧ Mt w' m v' room its' ∧ Fr2 m v.ownBlock w w' ∧ Nw w v v' ∧ (∀ X : Nat → Prop, (∀ y ∈ its, Liv X y) → (∀ b, w.heap.size ≤ b → X b) → ∀ y ∈ its', Liv X y) := by
  have hb0 := below_alloc w (.cells (ics x).toArray 31)
  have hv := Vb.new 31 w (ics x)
  have h1 := h.below hb0
  have hx1 := hx.below' hb0 hB
  have hB1 : B ≤ (w.alloc (.cells (ics x).toArray 31)).heap.size := by have := hb0.size; omega
  have HM0 := Kp.mk (show m < w.heap.size from h.blk.lt)
  have HT := Kp.mk (fun (w1 : World) (hb : Below w.heap.size w w1) => h.below hb)
  have HST := Kp.mk (fun (w1 : World) (v2 : Value) (its2 : List It) (hb : Below w.heap.size w w1) => mt_store (v2 := v2) (its2 := its2) h hb)
  obtain ⟨dE, hde⟩ : ∃ dE, dE = addE room x.r (rls its) := ⟨_, rfl⟩
  obtain ⟨dL, hdl⟩ : ∃ dL, dL = addL room x.r (rls its) := ⟨_, rfl⟩
  rw [← hde, ← hdl]
  have HE := Kp.mk hde
  have HL := Kp.mk hdl
  clear hde hdl
  have l1 := Kp.mk (lo_hi (r := x.r) hS)
  have l2 := Kp.mk (hi_lo (r := x.r) hS)
  have l3 := Kp.mk (hi_le (r := x.r) (l := rls its))
  have HX := Kp.mk (fun (W : World) (hb : Below w.heap.size w W) => hx.below' hb hB)
  have HGX := Kp.mk (fun hc : checkR x.r = 0 => okR_gd ((checkR_zero x.r).1 hc) hm)
  have HXL := Kp.mk hxl
  have HLL := Kp.mk hl
  have HLR := Kp.mk hlr
  have HBK := Kp.mk hB
  have HOW := Kp.mk (fun q (hq : v.ownBlock = some q) => (h.row.lt q hq).1)
  clear h hx hxl hm hl hlr hB
  go_enter Try.func90, Try.ntmps90
  go_upto_region 1 with fail
  generalize w.alloc (.cells (ics x).toArray 31) = w0 at *
  have HCk := Kp.mk (refCheck8_any x hx1 hB1)
  go_upto_region 2 with (first | refine wpList_load_vb (vs := ics x) rfl (.tmp 3) rfl rfl hv rfl agg_rule ?_ | (refine HCk.out.mono ?_; rintro e w1 ⟨rfl, hb1⟩))
  have h2 := h1.below hb1
  have hv2 := hv.below hb1 hv.lt
  have hBl := hb0.trans (hb1.mono hb0.size)
  clear hv HCk hx1 hB1 hb1 h1 hb0
  by_cases hck : checkR x.r = 0
  rotate_left
  · have HE2 := Kp.mk (show dE = checkR x.r by rw [HE.out]; unfold addE; rw [if_neg hck])
    have HL2 := Kp.mk (show dL = rls its by rw [HL.out]; unfold addL addE; rw [if_neg hck, if_neg hck])
    have hck' : (checkR x.r != 0) = true := by simpa using hck
    have HFB := Kp.mk (Fr2.of_below (t := m) (r := v.ownBlock) hBl)
    clear HE HL
    go_wp2_with fail
    go_ret
    exact ⟨v, its, by rw [HE2.out]; rfl, HL2.out.symm, h2, HFB.out, fun k hk => .inl hk, fun X h _ => h⟩
  have HAT := Kp.mk (mAt h2 hS hG x (HGX.out hck))
  have hck' : (checkR x.r != 0) = false := by simpa using hck
  have HCK := Kp.mk hck
  go_upto_region 4 with fail
  clear hck' hck
  go_upto_region 5 with (refine wpList_load_vb (vs := ics x) rfl (.tmp 3) rfl rfl hv2 rfl agg_rule ?_)
  refine HAT.out.mono ?_
  rintro e w2 ⟨rfl, hb2⟩
  have hB2 := hBl.trans (hb2.mono hBl.size)
  have hv3 := hv2.below hb2 hv2.lt
  clear h2 hv2 hBl hb2 HAT hS hG
  have hT2 := HT.out _ hB2
  have hrow := hT2.row
  have HOX := Kp.mk (HX.out _ hB2)
  by_cases hlh : loP x.r (rls its) < hiP x.r (rls its)
  · have HE2 := Kp.mk (show dE = 0 by rw [HE.out]; unfold addE; rw [if_pos HCK.out, if_neg (fun h => by have := h.1; omega)])
    have HL2 := Kp.mk (show dL = (rls its).take (loP x.r (rls its)) ++ [x.r] ++ (rls its).drop (loP x.r (rls its) + 1) by
      rw [HL.out]; unfold addL; rw [if_pos (by rw [← HE.out, HE2.out])]; unfold tadd; rw [show hiP x.r (rls its) = loP x.r (rls its) + 1 by have := l2.out; omega])
    have n0 : decide (loP x.r (rls its) < hiP x.r (rls its)) = true := decide_eq_true hlh
    have hkn : loP x.r (rls its) < its.length := by have := l3.out; rw [rls_len] at this; omega
    generalize decide (loP x.r (rls its) < hiP x.r (rls its)) = isb at *
    subst n0
    clear HE HL hlh l1 l2 l3 HGX HX
    generalize loP x.r (rls its) = k at *
    have hc1 : its.length ≤ 1000 := HLL.out
    rcases hrow with ⟨_, e0⟩ | ⟨g1, sp1, rfl, hrow, hmx⟩
    · exfalso; rw [e0] at hkn; simp at hkn
    obtain ⟨n, hn⟩ : ∃ n, n = its.length := ⟨_, rfl⟩
    have HN := Kp.mk hn
    obtain ⟨c, hc⟩ : ∃ c, c = n + sp1.length := ⟨_, rfl⟩
    have HC := Kp.mk hc
    have hblk := hT2.blk
    rw [← hn, ← hc] at hblk
    have HMX := Kp.mk hmx
    have hkn2 : (k : Int) < n := by omega
    have HB2 := Kp.mk hB2
    have HKN := Kp.mk hkn
    obtain ⟨gx, hgx⟩ : ∃ g, g = w.heap.size := ⟨_, rfl⟩
    have hgx2 := hgx
    rw [← hgx] at hv3 ⊢
    clear hn hc hT2 hgx hmx hkn hc1
    have HGX2 := Kp.mk (show gx ≠ g1 from fun e => by have h1 := HOW.out g1 rfl; have := hgx2; omega)
    clear hgx2
    go_upto_region 6 with fail
    have hv3x : Vb 31 w2 gx [.int .i64 x.r.k, .int .i64 x.r.pr, .int .i64 x.r.to, .int .i64 x.r.po, .int .i64 x.r.x.v, .int .i64 x.r.x.m, .int .u8 x.r.x.b0, .int .u8 x.r.x.b1, .int .u8 x.r.x.b2, .int .u8 x.r.x.i0, .int .u8 x.r.x.i1, .int .u8 x.r.x.i2, .slice x.A x.r.os.length x.c] := hv3
    have hb3 := (Below.refl w2.heap.size w2).drew
    have hrow3 := Vb.below hrow hb3 (Vb.lt hrow)
    have hS0 : (fun W => Vb 121 W m [.slice (some ⟨g1, 0, none⟩) n c, .int .i64 room] ∧ Vb 31 W gx [.int .i64 x.r.k, .int .i64 x.r.pr, .int .i64 x.r.to, .int .i64 x.r.po, .int .i64 x.r.x.v, .int .i64 x.r.x.m, .int .u8 x.r.x.b0, .int .u8 x.r.x.b1, .int .u8 x.r.x.b2, .int .u8 x.r.x.i0, .int .u8 x.r.x.i1, .int .u8 x.r.x.i2, .slice x.A x.r.os.length x.c]) w2.drew := ⟨hblk, hv3x⟩
    refine wp_region_held_drew (S := fun W => Vb 121 W m [.slice (some ⟨g1, 0, none⟩) n c, .int .i64 room] ∧ Vb 31 W gx [.int .i64 x.r.k, .int .i64 x.r.pr, .int .i64 x.r.to, .int .i64 x.r.po, .int .i64 x.r.x.v, .int .i64 x.r.x.m, .int .u8 x.r.x.b0, .int .u8 x.r.x.b1, .int .u8 x.r.x.b2, .int .u8 x.r.x.i0, .int .u8 x.r.x.i1, .int .u8 x.r.x.i2, .slice x.A x.r.os.length x.c]) (by kernel_rfl) hS0 (fun _ => ?_)
    clear hblk hrow hv3 hv3x
    have HOX3 := Kp.mk ((HOX.out).below' hb3 (Nat.le_trans HBK.out HB2.out.size))
    clear HOX
    generalize w2.drew = u0 at *
    refine takeD (i := 0) (v := .pointer (some ⟨m, 0, none⟩)) (some 21) rfl rfl (by kernel_rfl) (by kernel_rfl) (by kernel_rfl) (fun _ _ _ h => h) (Or.inl ⟨by rfl, ?_⟩) hS0 ?_
    · rintro w' _
      go_simp
    try simp only [Act.put, List.setIfInBounds_toArray, List.set_cons_zero, List.set_cons_succ]
    refine takeD (i := 1) (v := .pointer (some ⟨m, 0, none⟩)) (some 22) rfl rfl (by kernel_rfl) (by kernel_rfl) (by kernel_rfl) (fun _ _ _ h => h) (Or.inl ⟨by rfl, ?_⟩) hS0 ?_
    · rintro w' _
      go_simp
    try simp only [Act.put, List.setIfInBounds_toArray, List.set_cons_zero, List.set_cons_succ]
    refine takeD (i := 2) (v := .pointer (some ⟨m, 0, none⟩)) (some 23) rfl rfl (by kernel_rfl) (by kernel_rfl) (by kernel_rfl) (fun _ _ _ h => h) (Or.inl ⟨by rfl, ?_⟩) hS0 ?_
    · rintro w' _
      go_simp
    try simp only [Act.put, List.setIfInBounds_toArray, List.set_cons_zero, List.set_cons_succ]
    refine takeD (i := 3) (v := .slice (some ⟨g1, 0, none⟩) n c) (some 24) rfl rfl (by kernel_rfl) (by kernel_rfl) (by kernel_rfl) (fun _ _ _ h => h) (Or.inl ⟨by rfl, ?_⟩) hS0 ?_
    · rintro w' s0
      have c0 := Vb.cell s0.1 0 rfl
      go_simp
    try simp only [Act.put, List.setIfInBounds_toArray, List.set_cons_zero, List.set_cons_succ]
    refine takeD (i := 4) (v := .int .i64 k) (some 25) rfl rfl (by kernel_rfl) (by kernel_rfl) (by kernel_rfl) (fun _ _ _ h => h) (Or.inl ⟨by rfl, ?_⟩) hS0 ?_
    · rintro w' _
      go_simp
    try simp only [Act.put, List.setIfInBounds_toArray, List.set_cons_zero, List.set_cons_succ]
    refine takeD (i := 5) (v := .agg #[.int .i64 x.r.k, .int .i64 x.r.pr, .int .i64 x.r.to, .int .i64 x.r.po, .int .i64 x.r.x.v, .int .i64 x.r.x.m, .int .u8 x.r.x.b0, .int .u8 x.r.x.b1, .int .u8 x.r.x.b2, .int .u8 x.r.x.i0, .int .u8 x.r.x.i1, .int .u8 x.r.x.i2, .slice x.A x.r.os.length x.c]) (some 26) rfl rfl (by kernel_rfl) (by kernel_rfl) (by kernel_rfl) (fun _ _ _ h => h) (Or.inl ⟨by rfl, ?_⟩) hS0 ?_
    · rintro w' ⟨_, s0⟩
      obtain ⟨d0, d1, d2, d3, d4, d5, d6, d7, d8, d9, d10, d11, d12⟩ := s0.c13
      go_simp
    try simp only [Act.put, List.setIfInBounds_toArray, List.set_cons_zero, List.set_cons_succ]
    refine wpAnyH_ready (rs := [6]) (by kernel_rfl) (by simp) ?_
    refine AllReadyH.cons rfl (fun K hK => ?_) AllReadyH.nil
    try rw [if_pos (by rfl)]
    go_simp
    go_at_call 95
    refine (refCopy_any x HOX3.out (Nat.le_trans HBK.out (Nat.le_trans HB2.out.size hb3.size)) HXL.out).mono ?_
    rintro e u1 ⟨y, hyr, rfl, hyo, hyf, hb1⟩
    have hS1 : (fun W => Vb 121 W m [.slice (some ⟨g1, 0, none⟩) n c, .int .i64 room] ∧ Vb 31 W gx [.int .i64 x.r.k, .int .i64 x.r.pr, .int .i64 x.r.to, .int .i64 x.r.po, .int .i64 x.r.x.v, .int .i64 x.r.x.m, .int .u8 x.r.x.b0, .int .u8 x.r.x.b1, .int .u8 x.r.x.b2, .int .u8 x.r.x.i0, .int .u8 x.r.x.i1, .int .u8 x.r.x.i2, .slice x.A x.r.os.length x.c]) u1 := ⟨Vb.below hS0.1 hb1 (Vb.lt hS0.1), Vb.below hS0.2 hb1 (Vb.lt hS0.2)⟩
    have hrow1 := Vb.below hrow3 hb1 (Vb.lt hrow3)
    refine hK.out _ _ hS1 (fun _ => ?_)
    clear hK K hS0 hrow3
    try simp only [Act.put, List.setIfInBounds_toArray, List.set_cons_zero, List.set_cons_succ]
    refine takeD (i := 7) (v := .pointer (some ⟨g1, k * 13, none⟩)) (some 28) rfl rfl (by kernel_rfl) (by kernel_rfl) (by kernel_rfl) (fun _ _ _ h => h) (Or.inl ⟨by rfl, ?_⟩) hS1 ?_
    · rintro w' _
      go_simp
    try simp only [Act.put, List.setIfInBounds_toArray, List.set_cons_zero, List.set_cons_succ]
    refine wpAnyH_ready (rs := [8]) (by kernel_rfl) (by simp) ?_
    refine AllReadyH.cons rfl (fun K hK => ?_) AllReadyH.nil
    try rw [if_pos (by rfl)]
    have hbe := hb3.trans (hb1.mono hb3.size)
    have hBB := HB2.out.trans (hbe.mono HB2.out.size)
    have HTB := Kp.mk (HT.out _ hBB)
    have HRB := Kp.mk hrow1
    have HYO := Kp.mk hyo
    have HYF := Kp.mk hyf
    have HBB := Kp.mk hBB
    have HYR := Kp.mk hyr
    have HSZ := Kp.mk (show w.heap.size ≤ u0.heap.size from Nat.le_trans HB2.out.size hb3.size)
    refine wp_storeR (k := k) (z := y) none rfl (.tmp 28) (.tmp 27) rfl rfl rfl hrow1 (by have := HKN.out; have := HN.out; rw [List.length_append]; omega) (fun w9 hR9 hg9 => ?_)
    have hS9 : (fun W => Vb 121 W m [.slice (some ⟨g1, 0, none⟩) n c, .int .i64 room] ∧ Vb 31 W gx [.int .i64 x.r.k, .int .i64 x.r.pr, .int .i64 x.r.to, .int .i64 x.r.po, .int .i64 x.r.x.v, .int .i64 x.r.x.m, .int .u8 x.r.x.b0, .int .u8 x.r.x.b1, .int .u8 x.r.x.b2, .int .u8 x.r.x.i0, .int .u8 x.r.x.i1, .int .u8 x.r.x.i2, .slice x.A x.r.os.length x.c]) w9 := ⟨Vb.grown hS1.1 hg9 (fun e => vb_ne hrow1 hS1.1 (by decide) e.symm), Vb.grown hS1.2 hg9 HGX2.out⟩
    have HR9 := Kp.mk hR9
    have HG9 := Kp.mk hg9
    have HV9 := Kp.mk hS9.1
    refine hK.out _ _ hS9 (fun _ => ?_)
    clear hK K hS1 hrow1 hR9 hg9 hyo hyf hyr hbe hBB hb1
    try simp only [Act.put, List.setIfInBounds_toArray, List.set_cons_zero, List.set_cons_succ]
    refine wpAnyH_done (by kernel_rfl) ?_ _
    clear hS9
    go_wp2_with fail
    go_ret
    have hkn := HKN.out
    have hcs : c = its.length + sp1.length := by rw [HC.out, HN.out]
    have hln : (its.take k ++ [y] ++ its.drop (k + 1)).length = its.length := by simp; omega
    have hRS : RowS w9 (.slice (some ⟨g1, 0, none⟩) its.length (its.length + sp1.length)) (its.take k ++ [y] ++ its.drop (k + 1)) := .inr ⟨g1, sp1, by rw [hln], by
      have h := HR9.out
      rwa [List.take_append_of_le_length (by omega), List.drop_append_of_le_length (by omega), ← List.append_assoc] at h, by rw [hln]; exact HMX.out⟩
    refine ⟨.slice (some ⟨g1, 0, none⟩) its.length (its.length + sp1.length), its.take k ++ [y] ++ its.drop (k + 1), by rw [HE2.out]; rfl, ?_, ⟨?_, hRS, fun z hz => ?_⟩, ?_, fun q hq => .inl hq, fun X h1 h3 z hz => ?_⟩
    · rw [HL2.out]; simp [rls, HYR.out]
    · have h := HV9.out
      rwa [hcs, HN.out] at h
    · have hz2 : Ob u1 z := by
        rcases List.mem_append.1 hz with hz | hz
        · rcases List.mem_append.1 hz with hz | hz
          · exact HTB.out.outs z (List.mem_of_mem_take hz)
          · rw [List.mem_singleton.1 hz]; exact HYO.out
        · exact HTB.out.outs z (List.mem_of_mem_drop hz)
      exact hz2.row HRB.out HG9.out
    · exact (Fr2.of_below HBB.out).trans (Fr2.of_grown (r := some g1) HG9.out) (.inl rfl)
    · rcases List.mem_append.1 hz with hz | hz
      · rcases List.mem_append.1 hz with hz | hz
        · exact h1 z (List.mem_of_mem_take hz)
        · rw [List.mem_singleton.1 hz]
          exact fun hn a e => h3 _ (Nat.le_trans HSZ.out (HYF.out hn a e))
      · exact h1 z (List.mem_of_mem_drop hz)
  have n0 : decide (loP x.r (rls its) < hiP x.r (rls its)) = false := decide_eq_false hlh
  have hle : loP x.r (rls its) = hiP x.r (rls its) := by have := l1.out; omega
  have hkn : loP x.r (rls its) ≤ its.length := by have := l3.out; rw [rls_len] at this; omega
  obtain ⟨A, c, rfl, _, hc1, hc2, hc3⟩ := hrow.form
  have hblk := hT2.blk
  have c0 := hblk.cell 0 rfl
  have c1 := hblk.cell 1 rfl
  have HQ := Kp.mk (fun q => below_drewN hB2 q)
  have HQ2 := Kp.mk (fun q => below_drewN (Below.refl w2.heap.size w2) q)
  by_cases hfull : (its.length : Int) = room
  · have HE2 := Kp.mk (show dE = 90 by rw [HE.out]; unfold addE; rw [if_pos HCK.out, if_pos ⟨hle, by rw [rls_len]; exact hfull⟩])
    have HL2 := Kp.mk (show dL = rls its by rw [HL.out]; unfold addL; rw [if_neg (by rw [← HE.out, HE2.out]; omega)])
    have hge : room ≤ (its.length : Int) := by omega
    have HTQ := Kp.mk (fun W hb => HT.out W hb)
    generalize decide (loP x.r (rls its) < hiP x.r (rls its)) = isb at *
    subst n0
    clear HE HL hlh l1 l2 l3 HGX HX hle hkn hfull hc1 hc2 hc3 hT2 hrow hblk hv3 HLL HLR HST HT HOX
    go_upto_region 8 with fail
    go_quiet (fail)
    go_wp2_with fail
    go_ret
    exact ⟨_, its, by rw [HE2.out]; rfl, HL2.out.symm, HTQ.out _ (HQ.out _), Fr2.of_below (HQ.out _), fun k hk => .inl hk, fun X h _ => h⟩
  have HE2 := Kp.mk (show dE = 0 by rw [HE.out]; unfold addE; rw [if_pos HCK.out, if_neg (fun h => hfull (by have := h.2; rw [rls_len] at this; exact this))])
  have HL2 := Kp.mk (show dL = (rls its).take (loP x.r (rls its)) ++ [x.r] ++ (rls its).drop (loP x.r (rls its)) by
    rw [HL.out]; unfold addL; rw [if_pos (by rw [← HE.out, HE2.out])]; unfold tadd; rw [hle])
  have hlt2 : (its.length : Int) < room := by have := HLR.out; omega
  generalize decide (loP x.r (rls its) < hiP x.r (rls its)) = isb at *
  subst n0
  clear HE HL hlh l1 l2 l3 HGX hle hfull HOX
  generalize loP x.r (rls its) = k at *
  obtain ⟨n, hn⟩ : ∃ n, n = its.length := ⟨_, rfl⟩
  have HN := Kp.mk hn
  rw [← hn] at c0 hlt2 hkn hc1 HT HST
  have hn1 : n ≤ 1000 := by have := HLL.out; omega
  obtain ⟨gx, hgx⟩ : ∃ g, g = w.heap.size := ⟨_, rfl⟩
  rw [← hgx] at hv3 ⊢
  have HGX := Kp.mk hgx
  have HVX := Kp.mk hv3
  have HC := Kp.mk (And.intro hc1 hc3)
  clear hn hT2 hrow hblk hv3 hgx hc1 hc2 hc3 hB2
  go_upto_region 8 with fail
  go_quiet (fail)
  have HBU := Kp.mk (HQ.out nq)
  have HBU2 := Kp.mk (HQ2.out nq)
  clear HQ HQ2 c0 c1
  generalize w2.drewN nq = u at *
  have hnr : ¬ room ≤ (n : Int) := by omega
  have hmtu := HT.out u HBU.out
  have c0 := hmtu.blk.cell 0 rfl
  have hs1 := hmtu.row.pre (k := k) (by have := HN.out; omega)
  have hknI : (k : Int) ≤ c := by have := HC.out.1; omega
  obtain ⟨v8, w8, hrun8, hR8, hg8, hN8⟩ := run_appendR (c := c) 39 (RowS.nil u) hs1 (by simp; omega)
  have hb8 := grown_none hg8
  have HN8 := Kp.mk (show ∀ q, v8.ownBlock = some q → u.heap.size ≤ q from fun q hq => by
    rcases hN8 with e | ⟨q2, e, h2⟩
    · rw [e] at hq; simp [Value.ownBlock] at hq
    · rw [e] at hq; have := Option.some.inj hq; omega)
  have HB8 := Kp.mk (HBU.out.trans (hb8.mono HBU.out.size))
  have HB8u := Kp.mk hb8
  have HR8 := Kp.mk hR8
  have HKN := Kp.mk hkn
  clear hs1 hN8 hg8 hmtu hb8 hR8 hkn HLL HLR
  go_upto_region 12 with (at_builtin; refine Lib.wpList_append_run _ rfl _ _ _ _ rfl _ _ rfl rfl _ _ hrun8 ?_)
  have hvu := (HVX.out.below HBU2.out HVX.out.lt).below (B := u.heap.size) HB8u.out (Nat.lt_of_lt_of_le HVX.out.lt HBU2.out.size)
  clear hrun8 c0 hknI hnr hlt2
  go_upto_region 13 with (refine wpList_load_vb (vs := ics x) rfl (.tmp 3) rfl rfl hvu rfl agg_rule ?_)
  refine (refCopy_any x (HX.out w8 HB8.out) (Nat.le_trans HBK.out HB8.out.size) HXL.out).mono ?_
  rintro e w9 ⟨y, hyr, rfl, hyo, hyf, hb9⟩
  rw [show (ics y).toArray = #[.int .i64 y.r.k, .int .i64 y.r.pr, .int .i64 y.r.to, .int .i64 y.r.po, .int .i64 y.r.x.v, .int .i64 y.r.x.m, .int .u8 y.r.x.b0, .int .u8 y.r.x.b1, .int .u8 y.r.x.b2, .int .u8 y.r.x.i0, .int .u8 y.r.x.i1, .int .u8 y.r.x.i2, .slice y.A y.r.os.length y.c] from rfl]
  have hr10 := rowb_one w9 y
  have hb10 := below_alloc w9 (.cells #[.int .i64 y.r.k, .int .i64 y.r.pr, .int .i64 y.r.to, .int .i64 y.r.po, .int .i64 y.r.x.v, .int .i64 y.r.x.m, .int .u8 y.r.x.b0, .int .u8 y.r.x.b1, .int .u8 y.r.x.b2, .int .u8 y.r.x.i0, .int .u8 y.r.x.i1, .int .u8 y.r.x.i2, .slice y.A y.r.os.length y.c] 31)
  have hb89 := hb9.trans (hb10.mono hb9.size)
  have hR10 := HR8.out.below hb89
  have hyo10 := hyo.below hb10
  obtain ⟨v11, w11, hrun11, hR11, hg11, hN11⟩ := run_appendR (c := 1) 39 hR10 (⟨rfl, .inr ⟨w9.heap.size, 0, [y], by simp, hr10, by simp, rfl⟩⟩ : SrcR _ (some ⟨w9.heap.size, 0, none⟩) 1 [y]) (by have := HKN.out; simp; omega)
  have hb8a := HB8u.out.trans (hb89.mono HB8u.out.size)
  have hbu11 := hb8a.grown hg11 hb8a.size (fun q e => HN8.out q e)
  have HR11 := Kp.mk hR11
  have HBU11 := Kp.mk hbu11
  have HB11 := Kp.mk (HBU.out.trans (hbu11.mono HBU.out.size))
  have HN11 := Kp.mk (show ∀ q, v11.ownBlock = some q → u.heap.size ≤ q from fun q hq => by
    rcases hN11 with e | ⟨q2, e, h2⟩
    · exact HN8.out q (e ▸ hq)
    · rw [e] at hq; have := Option.some.inj hq; have := hb8a.size; omega)
  have HYF := Kp.mk hyf
  have HYO := Kp.mk (hyo10.row2 HR8.out hb89 hR10 hg11)
  have HYR := Kp.mk hyr
  have HS8 := Kp.mk HB8.out.size
  clear hr10 hb10 hb89 hR10 hyo10 hyo hyf hyr hb9 hb8a hbu11 hR11 hg11 hN11 hvu
  go_upto_region 13 with (at_builtin; refine Lib.wpList_append_run _ rfl _ _ _ _ rfl _ _ rfl rfl _ _ hrun11 ?_)
  clear hrun11
  have c11 := (HT.out w11 HB11.out).blk.cell 0 rfl
  have HEN := Kp.mk (fun (v12 : Value) (w12 : World) (hb : Below w.heap.size w w12) (hR : RowS w12 v12 ([] ++ its.take k ++ [y] ++ its.drop k)) (hyo : Ob w12 y) (hn : ∀ q, v12.ownBlock = some q → w.heap.size ≤ q) =>
    HST.out w12 v12 _ hb hR (fun z hz => by
      rcases List.mem_append.1 hz with hz | hz
      · rcases List.mem_append.1 hz with hz | hz
        · rw [List.nil_append] at hz; exact (HT.out _ hb).outs z (List.mem_of_mem_take hz)
        · rw [List.mem_singleton.1 hz]; exact hyo
      · exact (HT.out _ hb).outs z (List.mem_of_mem_drop hz)) hn)
  have HLI := Kp.mk (show ∀ X : Nat → Prop, (∀ y ∈ its, Liv X y) → (∀ b, w.heap.size ≤ b → X b) → ∀ z ∈ ([] ++ its.take k ++ [y] ++ its.drop k), Liv X z from fun X h1 h3 z hz => by
    rcases List.mem_append.1 hz with hz | hz
    · rcases List.mem_append.1 hz with hz | hz
      · rw [List.nil_append] at hz; exact h1 z (List.mem_of_mem_take hz)
      · rw [List.mem_singleton.1 hz]; exact fun hn a e => h3 _ (Nat.le_trans HS8.out (HYF.out hn a e))
    · exact h1 z (List.mem_of_mem_drop hz))
  have HLS := Kp.mk (show rls ([] ++ its.take k ++ [y] ++ its.drop k) = dL by rw [HL2.out]; simp [rls, HYR.out])
  have hknI : (k : Int) ≤ n := by have := HKN.out; omega
  rcases A with _ | ⟨g1, o1, s1⟩
  · obtain ⟨rfl, rfl⟩ : c = 0 ∧ n = 0 := by have h1 := HC.out; have h2 := h1.2 rfl; exact ⟨h2, by omega⟩
    obtain rfl : k = 0 := by have := HKN.out; omega
    have hi0 : its = [] := List.eq_nil_of_length_eq_zero HN.out.symm
    obtain ⟨v12, w12, hrun12, hR12, hg12, hN12⟩ := run_appendR (c := 0) 39 HR11.out ((by rw [hi0]; exact ⟨rfl, .inl ⟨rfl, rfl⟩⟩ : SrcR w11 none 0 (its.drop 0))) (by rw [hi0]; simp)
    obtain ⟨A9, d9, hv9, _⟩ := hR12.form
    obtain ⟨L9, hL9⟩ : ∃ L, L = ([] ++ its.take 0 ++ [y] ++ its.drop 0).length := ⟨_, rfl⟩
    rw [← hL9] at hv9
    clear hL9
    subst hv9
    have hb12 := HBU11.out.grown hg12 HBU11.out.size (fun q e => HN11.out q e)
    have hB12 := HBU.out.trans (hb12.mono HBU.out.size)
    have HN12 := Kp.mk (show ∀ q, (Value.slice A9 L9 d9).ownBlock = some q → w.heap.size ≤ q from fun q hq => by
      have := HBU.out.size
      rcases hN12 with e | ⟨q2, e, h2⟩
      · have := HN11.out q (e ▸ hq); omega
      · rw [e] at hq; have := Option.some.inj hq; have := HB11.out.size; omega)
    have HF12 := Kp.mk (HEN.out (.slice A9 L9 d9) w12 hB12 hR12 (HYO.out.rowed2 HR11.out hg12) HN12.out)
    have hblk12 := (HT.out _ hB12).blk
    have hf12 := hblk12.free
    have c12 := hblk12.cell 0 rfl
    clear hb12 hB12 hR12 hg12 hN12 hblk12 hi0
    go_wp2_with (at_builtin; refine Lib.wpList_append_run _ rfl _ _ _ _ rfl _ _ rfl rfl _ _ hrun12 ?_)
    go_ret
    first | exact ⟨.slice A9 L9 d9, _, by rw [HE2.out]; rfl, HLS.out, HF12.out.1, HF12.out.2.1, HF12.out.2.2, HLI.out⟩ | exact ⟨by rw [HE2.out]; rfl, .slice A9 L9 d9, _, HLS.out, HF12.out.1, HF12.out.2.1, HF12.out.2.2, HLI.out⟩
  obtain ⟨rfl, rfl⟩ : o1 = 0 ∧ s1 = none := by
    have hrow := (HT.out w11 HB11.out).row
    rcases hrow with ⟨e, _⟩ | ⟨g, ys, e, _⟩
    · simp at e
    · obtain ⟨e1, _, _⟩ := Value.slice.inj e
      have e1 := Option.some.inj e1
      injection e1 with _ e2 e3
      exact ⟨e2, e3⟩
  by_cases hck2 : c = k
  · have hnk : n = k := by have := HKN.out; have := HC.out.1; omega
    obtain ⟨v12, w12, hrun12, hR12, hg12, hN12⟩ := run_appendR (c := c - k) 39 HR11.out ((HT.out w11 HB11.out).row.post (k := k) (j := 0) (by have := HN.out; have := HKN.out; omega) (by have := HN.out; omega)) (by have := HN.out; have := HKN.out; simp; omega)
    rw [← HN.out, Nat.zero_mul, show n - k = 0 by omega, show c - k = 0 by omega] at hrun12
    obtain ⟨A9, d9, hv9, _⟩ := hR12.form
    obtain ⟨L9, hL9⟩ : ∃ L, L = ([] ++ its.take k ++ [y] ++ its.drop k).length := ⟨_, rfl⟩
    rw [← hL9] at hv9
    clear hL9
    subst hv9
    have hb12 := HBU11.out.grown hg12 HBU11.out.size (fun q e => HN11.out q e)
    have hB12 := HBU.out.trans (hb12.mono HBU.out.size)
    have HN12 := Kp.mk (show ∀ q, (Value.slice A9 L9 d9).ownBlock = some q → w.heap.size ≤ q from fun q hq => by
      have := HBU.out.size
      rcases hN12 with e | ⟨q2, e, h2⟩
      · have := HN11.out q (e ▸ hq); omega
      · rw [e] at hq; have := Option.some.inj hq; have := HB11.out.size; omega)
    have HF12 := Kp.mk (HEN.out (.slice A9 L9 d9) w12 hB12 hR12 (HYO.out.rowed2 HR11.out hg12) HN12.out)
    have hblk12 := (HT.out _ hB12).blk
    have hf12 := hblk12.free
    have c12 := hblk12.cell 0 rfl
    clear hb12 hB12 hR12 hg12 hN12 hblk12
    go_wp2_with (at_builtin; refine Lib.wpList_append_run _ rfl _ _ _ _ rfl _ _ rfl rfl _ _ hrun12 ?_)
    go_ret
    first | exact ⟨.slice A9 L9 d9, _, by rw [HE2.out]; rfl, HLS.out, HF12.out.1, HF12.out.2.1, HF12.out.2.2, HLI.out⟩ | exact ⟨by rw [HE2.out]; rfl, .slice A9 L9 d9, _, HLS.out, HF12.out.1, HF12.out.2.1, HF12.out.2.2, HLI.out⟩
  · skip
    obtain ⟨v12, w12, hrun12, hR12, hg12, hN12⟩ := run_appendR (c := c - k) 39 HR11.out ((HT.out w11 HB11.out).row.post (k := k) (j := k) (by have := HN.out; have := HKN.out; omega) (.inl rfl)) (by have := HN.out; have := HKN.out; simp; omega)
    rw [← HN.out] at hrun12
    obtain ⟨A9, d9, hv9, _⟩ := hR12.form
    obtain ⟨L9, hL9⟩ : ∃ L, L = ([] ++ its.take k ++ [y] ++ its.drop k).length := ⟨_, rfl⟩
    rw [← hL9] at hv9
    clear hL9
    subst hv9
    have hb12 := HBU11.out.grown hg12 HBU11.out.size (fun q e => HN11.out q e)
    have hB12 := HBU.out.trans (hb12.mono HBU.out.size)
    have HN12 := Kp.mk (show ∀ q, (Value.slice A9 L9 d9).ownBlock = some q → w.heap.size ≤ q from fun q hq => by
      have := HBU.out.size
      rcases hN12 with e | ⟨q2, e, h2⟩
      · have := HN11.out q (e ▸ hq); omega
      · rw [e] at hq; have := Option.some.inj hq; have := HB11.out.size; omega)
    have HF12 := Kp.mk (HEN.out (.slice A9 L9 d9) w12 hB12 hR12 (HYO.out.rowed2 HR11.out hg12) HN12.out)
    have hblk12 := (HT.out _ hB12).blk
    have hf12 := hblk12.free
    have c12 := hblk12.cell 0 rfl
    clear hb12 hB12 hR12 hg12 hN12 hblk12
    go_wp2_with (at_builtin; refine Lib.wpList_append_run _ rfl _ _ _ _ rfl _ _ rfl rfl _ _ hrun12 ?_)
    go_ret
    first | exact ⟨.slice A9 L9 d9, _, by rw [HE2.out]; rfl, HLS.out, HF12.out.1, HF12.out.2.1, HF12.out.2.2, HLI.out⟩ | exact ⟨by rw [HE2.out]; rfl, .slice A9 L9 d9, _, HLS.out, HF12.out.1, HF12.out.2.1, HF12.out.2.2, HLI.out⟩
end
end Go.Proofs.Ytcolklkjaifplaa.Oct

namespace Go.Proofs.Ytcolklkjaifplaa.Oct
open Go.RowKit
set_option linter.unusedVariables false
set_option linter.unusedSimpArgs false

section
variable {w w' : World} {m : Nat} {v : Value} {room : Int} {its : List It}
theorem take_snocI {l : List It} {i : Nat} {x : It} (h : l[i]? = some x) : l.take (i + 1) = l.take i ++ [x] := by
  obtain ⟨hl, e⟩ := List.getElem?_eq_some_iff.1 h
  rw [List.take_succ_eq_append_getElem hl, e]
theorem mt_form (h : Mt w m v room its) : ∃ A c, v = .slice A its.length c ∧ its.length ≤ c ∧ (its.length : Int) ≤ 9223372036854775807 := by
  obtain ⟨A, c, rfl, _, h1, h2, _⟩ := h.row.form
  exact ⟨A, c, rfl, h1, by unfold maxLen at h2; omega⟩
/-- The row's block, where there is a rule. -/
theorem mt_at {A : Option Addr} {n c i : Nat} (h : Mt w m (.slice A n c) room its) {y : It} (hy : its[i]? = some y) : ∃ g sp, A = some ⟨g, 0, none⟩ ∧ Rowb w g (its ++ sp) ∧ (its ++ sp)[i]? = some y := by
  rcases h.row with ⟨_, e0⟩ | ⟨g, ys, e, hr, _⟩
  · rw [e0] at hy; simp at hy
  · obtain ⟨rfl, _, _⟩ := Value.slice.inj e
    exact ⟨g, ys, rfl, hr, by rw [List.getElem?_append_left (List.getElem?_eq_some_iff.1 hy).1]; exact hy⟩
set_option maxRecDepth 100000 in
set_option maxHeartbeats 8000000 in
theorem mControl (h : Mt w m v room its) (tw : Int) : Calls Try.prog 63 #[.pointer (some ⟨m, 0, none⟩), .int .i64 tw] w fun e w' => ∃ q b, e = .returned (.tuple #[.int .i64 q, .bool b]) ∧ Ctl (rls its) tw q b ∧ w' = w := by
  obtain ⟨A, c, rfl, hc1, hmax⟩ := mt_form h
  have c0 := h.blk.cell 0 rfl
  obtain ⟨n, hn⟩ : ∃ n, n = its.length := ⟨_, rfl⟩
  have HN := Kp.mk hn
  rw [← hn] at h c0 hmax hc1
  have HM := Kp.mk h
  clear h hn
  go_enter Try.func63, Try.ntmps63
  go_wp2_with fail
  go_loopw [6] (fun s6 wr => ∃ i : Nat, s6 = .int .i64 i ∧ i ≤ n ∧ wr = w ∧ Kp (∀ (j : Nat) (x : It), j < i → its[j]? = some x → ¬ (x.r.k = 2 ∧ x.r.to = tw))) (fun s6 _ => n - (intOf s6).toNat)
  case atStart => exact ⟨0, rfl, Nat.zero_le _, rfl, Kp.mk (fun j x hj => by omega)⟩
  case round =>
    obtain ⟨i, rfl, hi, hwr, HT⟩ := hrel
    subst hwr
    by_cases hlt : (i : Int) < n
    · obtain ⟨y, hy⟩ : ∃ y, its[i]? = some y := ⟨_, List.getElem?_eq_getElem (by have := HN.out; omega)⟩
      have HY := Kp.mk hy
      obtain ⟨g1, sp1, rfl, hrow, hyz⟩ := mt_at HM.out hy
      generalize its ++ sp1 = R1 at *
      clear hy
      have q0 := fl_get R1 i 0 y hyz (by omega)
      have q1 := fl_get R1 i 1 y hyz (by omega)
      have q2 := fl_get R1 i 2 y hyz (by omega)
      have q3 := fl_get R1 i 3 y hyz (by omega)
      have q4 := fl_get R1 i 4 y hyz (by omega)
      have q5 := fl_get R1 i 5 y hyz (by omega)
      have q6 := fl_get R1 i 6 y hyz (by omega)
      have q7 := fl_get R1 i 7 y hyz (by omega)
      have q8 := fl_get R1 i 8 y hyz (by omega)
      have q9 := fl_get R1 i 9 y hyz (by omega)
      have q10 := fl_get R1 i 10 y hyz (by omega)
      have q11 := fl_get R1 i 11 y hyz (by omega)
      have q12 := fl_get R1 i 12 y hyz (by omega)
      rw [Nat.add_zero] at q0
      have d0 := Vb.cell hrow (i * 13) (q0.trans rfl)
      have d2 := Vb.cell hrow (i * 13 + 2) (q2.trans rfl)
      have d3 := Vb.cell hrow (i * 13 + 3) (q3.trans rfl)
      clear q0 q1 q2 q3 q4 q5 q6 q7 q8 q9 q10 q11 q12 hyz hrow
      by_cases hk2 : y.r.k = 2
      · by_cases hto : y.r.to = tw
        · have HQ := Kp.mk (show Ctl (rls its) tw y.r.po true from .inr ⟨rfl, y.r, List.mem_of_getElem? (rls_at HY.out), ⟨hk2, hto⟩, rfl⟩)
          have n0 : (y.r.k == 2) = true := by simp [hk2]
          have n1 : (y.r.to == tw) = true := by simp [hto]
          clear hk2 hto
          go_wp2_with fail
          go_ret2
          exact ⟨_, _, rfl, HQ.out, by first | rfl | trivial⟩
        · have HT2 := Kp.mk (show ∀ (j : Nat) (x : It), j < i + 1 → its[j]? = some x → ¬ (x.r.k = 2 ∧ x.r.to = tw) from fun j x hj hx h => by
            by_cases hji : j < i
            · exact HT.out j x hji hx h
            · obtain rfl : j = i := by omega
              rw [HY.out] at hx; rw [← Option.some.inj hx] at h; exact hto h.2)
          have n0 : (y.r.k == 2) = true := by simp [hk2]
          have n1 : (y.r.to == tw) = false := by simp [hto]
          clear hk2 hto
          go_wp2_with fail
          go_roundw
          case rel => exact ⟨i + 1, by go_num, by omega, trivial, HT2⟩
          case measure => simp [intOf]; omega
      · have HT2 := Kp.mk (show ∀ (j : Nat) (x : It), j < i + 1 → its[j]? = some x → ¬ (x.r.k = 2 ∧ x.r.to = tw) from fun j x hj hx h => by
          by_cases hji : j < i
          · exact HT.out j x hji hx h
          · obtain rfl : j = i := by omega
            rw [HY.out] at hx; rw [← Option.some.inj hx] at h; exact hk2 h.1)
        have n0 : (y.r.k == 2) = false := by simp [hk2]
        clear hk2
        go_wp2_with fail
        go_roundw
        case rel => exact ⟨i + 1, by go_num, by omega, trivial, HT2⟩
        case measure => simp [intOf]; omega
    · obtain rfl : i = n := by omega
      have HQ := Kp.mk (show Ctl (rls its) tw 0 false from .inl ⟨rfl, rfl, fun x hx => by
        obtain ⟨j, hj⟩ := List.getElem?_of_mem hx
        unfold rls at hj
        rw [List.getElem?_map] at hj
        cases hy : its[j]? with
        | none => rw [hy] at hj; simp at hj
        | some y =>
          rw [hy] at hj
          have hj : y.r = x := by simpa using hj
          subst hj
          exact HT.out j y (by have := (List.getElem?_eq_some_iff.1 hy).1; have := HN.out; omega) hy⟩)
      go_wp2_with fail
      go_ret2
      first | exact ⟨_, _, rfl, HQ.out, by first | rfl | trivial⟩ | exact ⟨_, .inl ⟨rfl, HQ.out, by first | rfl | trivial⟩⟩
set_option maxRecDepth 100000 in
set_option maxHeartbeats 8000000 in
theorem mRules (h : Mt w m v room its) (hl : its.length ≤ 1000) (hos : ∀ x ∈ its, x.r.os.length ≤ 1000000000) : Calls Try.prog 67 #[.pointer (some ⟨m, 0, none⟩)] w fun e w' => ∃ v' its', e = .returned v' ∧ RowS w' v' its' ∧ rls its' = rls its ∧ (∀ y ∈ its', Ob w' y) ∧ Below w.heap.size w w' := by
  obtain ⟨A, c, rfl, hc1, hmax⟩ := mt_form h
  obtain ⟨n, hn⟩ : ∃ n, n = its.length := ⟨_, rfl⟩
  have HN := Kp.mk hn
  have c0 := h.blk.cell 0 rfl
  rw [← hn] at h c0 hmax hc1 hl
  have HM := Kp.mk (fun W (hb : Below w.heap.size w W) => h.below hb)
  have HOS := Kp.mk hos
  have hb0 := Below.refl w.heap.size w
  have hr0 := RowS.nil w
  clear h hn hos
  go_enter Try.func67, Try.ntmps67
  go_wp2_with fail
  go_loopw [3, 4] (fun s3 s4 wr => ∃ (i : Nat) (os : List It), s4 = .int .i64 i ∧ i ≤ n ∧ RowS wr s3 os ∧ Kp (rls os = rls (its.take i)) ∧ Kp (∀ y ∈ os, Ob wr y) ∧ Kp (∀ k, s3.ownBlock = some k → w.heap.size ≤ k) ∧ Below w.heap.size w wr) (fun _ s4 _ => n - (intOf s4).toNat)
  case atStart => exact ⟨0, [], rfl, Nat.zero_le _, hr0, Kp.mk rfl, Kp.mk (fun y hy => by simp at hy), Kp.mk (fun k hk => by simp [Value.ownBlock] at hk), hb0⟩
  case round =>
    clear hb0 hr0 c0
    obtain ⟨i, os, rfl, hi, hR, HE, HO, HF, hB⟩ := hrel
    have hmt := HM.out _ hB
    have c0 := hmt.blk.cell 0 rfl
    by_cases hlt : (i : Int) < n
    · obtain ⟨y, hy⟩ : ∃ y, its[i]? = some y := ⟨_, List.getElem?_eq_getElem (by have := HN.out; omega)⟩
      have HY := Kp.mk hy
      have hyo := hmt.outs y (List.mem_of_getElem? hy)
      have hyl := HOS.out y (List.mem_of_getElem? hy)
      have HOSL := Kp.mk (show os.length ≤ i by have := congrArg List.length HE.out; rw [rls_len, rls_len, List.length_take] at this; omega)
      obtain ⟨g1, sp1, rfl, hrow, hyz⟩ := mt_at hmt hy
      generalize its ++ sp1 = R1 at *
      clear hy hmt
      go_wp2_with (refine wpList_load_vb (vs := [.int .i64 y.r.k, .int .i64 y.r.pr, .int .i64 y.r.to, .int .i64 y.r.po, .int .i64 y.r.x.v, .int .i64 y.r.x.m, .int .u8 y.r.x.b0, .int .u8 y.r.x.b1, .int .u8 y.r.x.b2, .int .u8 y.r.x.i0, .int .u8 y.r.x.i1, .int .u8 y.r.x.i2, .slice y.A y.r.os.length y.c]) rfl (.tmp 20) rfl rfl hrow (fl_off hyz (by omega)) agg_rule ?_)
      refine (refCopy_any y hyo.ro (Nat.le_refl _) hyl).mono ?_
      rintro e w4 ⟨z, hzr, rfl, hzo, _, hb4⟩
      rw [show (ics z).toArray = #[.int .i64 z.r.k, .int .i64 z.r.pr, .int .i64 z.r.to, .int .i64 z.r.po, .int .i64 z.r.x.v, .int .i64 z.r.x.m, .int .u8 z.r.x.b0, .int .u8 z.r.x.b1, .int .u8 z.r.x.b2, .int .u8 z.r.x.i0, .int .u8 z.r.x.i1, .int .u8 z.r.x.i2, .slice z.A z.r.os.length z.c] from rfl]
      have hr5 := rowb_one w4 z
      have hb5 := below_alloc w4 (.cells #[.int .i64 z.r.k, .int .i64 z.r.pr, .int .i64 z.r.to, .int .i64 z.r.po, .int .i64 z.r.x.v, .int .i64 z.r.x.m, .int .u8 z.r.x.b0, .int .u8 z.r.x.b1, .int .u8 z.r.x.b2, .int .u8 z.r.x.i0, .int .u8 z.r.x.i1, .int .u8 z.r.x.i2, .slice z.A z.r.os.length z.c] 31)
      have hb45 := hb4.trans (hb5.mono hb4.size)
      have hR5 := hR.below hb45
      have hzo5 := hzo.below hb5
      obtain ⟨v7, w7, hrun7, hR7, hg7, hN7⟩ := run_appendR (c := 1) 39 hR5 (⟨rfl, .inr ⟨w4.heap.size, 0, [z], by simp, hr5, by simp, rfl⟩⟩ : SrcR _ (some ⟨w4.heap.size, 0, none⟩) 1 [z]) (by have := HOSL.out; omega)
      have hB5 := hB.trans (hb45.mono hB.size)
      have hB7 := hB5.grown hg7 hB5.size (fun q e => HF.out q e)
      have HE2 := Kp.mk (show rls (os ++ [z]) = rls (its.take (i + 1)) by rw [take_snocI HY.out]; have h := HE.out; unfold rls at h ⊢; rw [List.map_append, List.map_append, h]; simp [hzr])
      have HO2 := Kp.mk (show ∀ y ∈ os ++ [z], Ob w7 y from fun u hu => by
        rcases List.mem_append.1 hu with hu | hu
        · exact ((HO.out u hu).below hb45).rowed hR5 hg7
        · rw [List.mem_singleton.1 hu]; exact hzo5.rowed hR5 hg7)
      have HF2 := Kp.mk (show ∀ k, v7.ownBlock = some k → w.heap.size ≤ k from fun q hq => by
        rcases hN7 with e | ⟨q2, e, h2⟩
        · exact HF.out q (e ▸ hq)
        · rw [e] at hq; have := Option.some.inj hq; have := hB5.size; omega)
      clear hyo hyl hR hr5 hb5 hb45 hR5 hzo5 hg7 hN7 hB5 hzo hzr hb4 hyz hrow hB
      go_wp2_with (at_builtin; refine Lib.wpList_append_run _ rfl _ _ _ _ rfl _ _ rfl rfl _ _ hrun7 ?_)
      go_roundw
      case rel => exact ⟨i + 1, os ++ [z], by go_num, by omega, hR7, HE2, HO2, HF2, hB7⟩
      case measure => simp [intOf]; omega
    · obtain rfl : i = n := by omega
      have HR := Kp.mk hR
      obtain ⟨A9, c9, hv9, _⟩ := hR.form
      subst hv9
      clear hR hmt
      generalize os.length = L9 at *
      go_wp2_with fail
      go_ret
      have HRL := Kp.mk (show rls os = rls its by rw [HE.out, HN.out, List.take_length])
      first | exact ⟨_, os, rfl, HR.out, HRL.out, HO.out, hB⟩ | exact ⟨_, rfl, os, HR.out, HRL.out, HO.out, hB⟩
set_option maxRecDepth 100000 in
set_option maxHeartbeats 16000000 in
theorem mData (h : Mt w m v room its) (hos : ∀ x ∈ its, x.r.os.length ≤ 1000000000) (ver port p q r : Int) : Calls Try.prog 64 #[.pointer (some ⟨m, 0, none⟩), .int .i64 ver, .int .i64 port, .agg #[.int .u8 p, .int .u8 q, .int .u8 r]] w fun e w' => ∃ y b, e = .returned (.tuple #[.agg (ics y).toArray, .bool b]) ∧ DataP (rls its) ver port p q r y.r b ∧ Ob w' y ∧ Fre w.heap.size y ∧ Below w.heap.size w w' := by
  have hb0 := below_two w (.cells #[.int .u8 p, .int .u8 q, .int .u8 r] 26) (.cells (ics zIt).toArray 31)
  have hh : Vb 26 ((w.alloc (.cells #[.int .u8 p, .int .u8 q, .int .u8 r] 26)).alloc (.cells (ics zIt).toArray 31)) w.heap.size [.int .u8 p, .int .u8 q, .int .u8 r] := (Vb.new 26 w [.int .u8 p, .int .u8 q, .int .u8 r]).alloc _
  have hr : Vb 31 ((w.alloc (.cells #[.int .u8 p, .int .u8 q, .int .u8 r] 26)).alloc (.cells (ics zIt).toArray 31)) (w.heap.size + 1) (ics zIt) := by have := Vb.new 31 (w.alloc (.cells #[.int .u8 p, .int .u8 q, .int .u8 r] 26)) (ics zIt); simpa using this
  have h0 := h.below hb0
  obtain ⟨A, c, rfl, hc1, hmax⟩ := mt_form h
  obtain ⟨n, hn⟩ : ∃ n, n = its.length := ⟨_, rfl⟩
  have HN := Kp.mk hn
  rw [← hn] at h0 hmax hc1
  rw [show (ics zIt).toArray = #[.int .i64 0, .int .i64 0, .int .i64 0, .int .i64 0, .int .i64 0, .int .i64 0, .int .u8 0, .int .u8 0, .int .u8 0, .int .u8 0, .int .u8 0, .int .u8 0, .slice none 0 0] from rfl] at *
  have HOS := Kp.mk hos
  clear h hn hos
  go_enter Try.func64, Try.ntmps64
  go_upto_region 1 with fail
  generalize ((w.alloc (.cells #[.int .u8 p, .int .u8 q, .int .u8 r] 26)).alloc (.cells #[.int .i64 0, .int .i64 0, .int .i64 0, .int .i64 0, .int .i64 0, .int .i64 0, .int .u8 0, .int .u8 0, .int .u8 0, .int .u8 0, .int .u8 0, .int .u8 0, .slice none 0 0] 31)) = w0 at *
  obtain ⟨gh, hgh⟩ : ∃ g, g = w.heap.size := ⟨_, rfl⟩
  obtain ⟨gr, hgr⟩ : ∃ g, g = w.heap.size + 1 := ⟨_, rfl⟩
  rw [← hgr] at hr ⊢
  rw [← hgh] at hh ⊢
  have HGR := Kp.mk (show w.heap.size ≤ gr by omega)
  clear hgh hgr
  have HM := Kp.mk (fun W (hb : Below w0.heap.size w0 W) => h0.below hb)
  have HH := Kp.mk (fun W (hb : Below w0.heap.size w0 W) => hh.below hb hh.lt)
  have HR := Kp.mk (fun W (hb : Below w0.heap.size w0 W) => hr.below hb hr.lt)
  have HB := Kp.mk hb0
  have hbz := Below.refl w0.heap.size w0
  clear h0 hh hr hb0
  go_wp2_with fail
  go_loopw [10] (fun s10 wr => ∃ i : Nat, s10 = .int .i64 i ∧ i ≤ n ∧ Kp (∀ (j : Nat) (x : It), j < i → its[j]? = some x → ¬ (x.r.k = 1 ∧ fitsM x.r.x ver port p q r = true)) ∧ Below w0.heap.size w0 wr) (fun s10 _ => n - (intOf s10).toNat)
  case atStart => exact ⟨0, rfl, Nat.zero_le _, Kp.mk (fun j x hj => by omega), hbz⟩
  case round =>
    clear hbz
    obtain ⟨i, rfl, hi, HT, hbw⟩ := hrel
    have hmt := HM.out _ hbw
    have hblk := hmt.blk
    have c0 := hblk.cell 0 rfl
    by_cases hlt : (i : Int) < n
    · obtain ⟨y, hy⟩ : ∃ y, its[i]? = some y := ⟨_, List.getElem?_eq_getElem (by have := HN.out; omega)⟩
      have HY := Kp.mk hy
      have HYL := Kp.mk (HOS.out y (List.mem_of_getElem? hy))
      obtain ⟨g1, sp1, rfl, hrow, hyz⟩ := mt_at hmt hy
      have HYZ := Kp.mk hyz
      have HROW := Kp.mk hrow
      generalize its ++ sp1 = R1 at *
      have hh := HH.out _ hbw
      clear hy hmt
      have q0 := fl_get R1 i 0 y hyz (by omega)
      have q1 := fl_get R1 i 1 y hyz (by omega)
      have q2 := fl_get R1 i 2 y hyz (by omega)
      have q3 := fl_get R1 i 3 y hyz (by omega)
      have q4 := fl_get R1 i 4 y hyz (by omega)
      have q5 := fl_get R1 i 5 y hyz (by omega)
      have q6 := fl_get R1 i 6 y hyz (by omega)
      have q7 := fl_get R1 i 7 y hyz (by omega)
      have q8 := fl_get R1 i 8 y hyz (by omega)
      have q9 := fl_get R1 i 9 y hyz (by omega)
      have q10 := fl_get R1 i 10 y hyz (by omega)
      have q11 := fl_get R1 i 11 y hyz (by omega)
      have q12 := fl_get R1 i 12 y hyz (by omega)
      rw [Nat.add_zero] at q0
      go_upto_region 4 with fail
      clear c0
      have hS0 : (fun W => Vb 121 W m [.slice (some ⟨g1, 0, none⟩) n c, .int .i64 room] ∧ Rowb W g1 R1 ∧ Vb 26 W gh [.int .u8 p, .int .u8 q, .int .u8 r]) wr.drew := ⟨hblk, hrow, hh⟩
      have hbd := hbw.drew
      refine wp_region_held_drew (S := fun W => Vb 121 W m [.slice (some ⟨g1, 0, none⟩) n c, .int .i64 room] ∧ Rowb W g1 R1 ∧ Vb 26 W gh [.int .u8 p, .int .u8 q, .int .u8 r]) (by kernel_rfl) hS0 (fun _ => ?_)
      clear hblk hrow hh hbw
      generalize wr.drew = u0 at *
      by_cases hk1 : y.r.k = 1
      · skip
        refine takeD (i := 0) (v := .pointer (some ⟨m, 0, none⟩)) (some 20) rfl rfl (by kernel_rfl) (by kernel_rfl) (by kernel_rfl) (fun _ _ _ h => h) (Or.inl ⟨by rfl, ?_⟩) hS0 ?_
        · rintro w' _
          go_simp
        try simp only [Act.put, List.setIfInBounds_toArray, List.set_cons_zero, List.set_cons_succ]
        refine takeD (i := 1) (v := .pointer (some ⟨m, 0, none⟩)) (some 21) rfl rfl (by kernel_rfl) (by kernel_rfl) (by kernel_rfl) (fun _ _ _ h => h) (Or.inl ⟨by rfl, ?_⟩) hS0 ?_
        · rintro w' _
          go_simp
        try simp only [Act.put, List.setIfInBounds_toArray, List.set_cons_zero, List.set_cons_succ]
        refine takeD (i := 2) (v := .pointer (some ⟨m, 0, none⟩)) (some 22) rfl rfl (by kernel_rfl) (by kernel_rfl) (by kernel_rfl) (fun _ _ _ h => h) (Or.inl ⟨by rfl, ?_⟩) hS0 ?_
        · rintro w' _
          go_simp
        try simp only [Act.put, List.setIfInBounds_toArray, List.set_cons_zero, List.set_cons_succ]
        refine takeD (i := 3) (v := .slice (some ⟨g1, 0, none⟩) n c) (some 23) rfl rfl (by kernel_rfl) (by kernel_rfl) (by kernel_rfl) (fun _ _ _ h => h) (Or.inl ⟨by rfl, ?_⟩) hS0 ?_
        · rintro w' s0
          have c0 := Vb.cell s0.1 0 rfl
          go_simp
        try simp only [Act.put, List.setIfInBounds_toArray, List.set_cons_zero, List.set_cons_succ]
        refine takeD (i := 4) (v := .int .i64 i) (some 24) rfl rfl (by kernel_rfl) (by kernel_rfl) (by kernel_rfl) (fun _ _ _ h => h) (Or.inl ⟨by rfl, ?_⟩) hS0 ?_
        · rintro w' _
          go_simp
        try simp only [Act.put, List.setIfInBounds_toArray, List.set_cons_zero, List.set_cons_succ]
        refine takeD (i := 5) (v := .pointer (some ⟨g1, i * 13, none⟩)) (some 25) rfl rfl (by kernel_rfl) (by kernel_rfl) (by kernel_rfl) (fun _ _ _ h => h) (Or.inl ⟨by rfl, ?_⟩) hS0 ?_
        · rintro w' _
          go_simp
        try simp only [Act.put, List.setIfInBounds_toArray, List.set_cons_zero, List.set_cons_succ]
        refine takeD (i := 6) (v := .pointer (some ⟨g1, i * 13, none⟩)) (some 26) rfl rfl (by kernel_rfl) (by kernel_rfl) (by kernel_rfl) (fun _ _ _ h => h) (Or.inl ⟨by rfl, ?_⟩) hS0 ?_
        · rintro w' _
          go_simp
        try simp only [Act.put, List.setIfInBounds_toArray, List.set_cons_zero, List.set_cons_succ]
        refine takeD (i := 7) (v := .int .i64 y.r.k) (some 27) rfl rfl (by kernel_rfl) (by kernel_rfl) (by kernel_rfl) (fun _ _ _ h => h) (Or.inl ⟨by rfl, ?_⟩) hS0 ?_
        · rintro w' ⟨_, s0, _⟩
          have d0 := Vb.cell s0 (i * 13) (q0.trans rfl)
          go_simp
        try simp only [Act.put, List.setIfInBounds_toArray, List.set_cons_zero, List.set_cons_succ]
        refine takeD (i := 8) (v := .bool true) (some 28) rfl rfl (by kernel_rfl) (by kernel_rfl) (by kernel_rfl) (fun _ _ _ h => h) (Or.inl ⟨by rfl, ?_⟩) hS0 ?_
        · rintro w' _
          have he : (y.r.k == 1) = true := by simp [hk1]
          go_simp
        try simp only [Act.put, List.setIfInBounds_toArray, List.set_cons_zero, List.set_cons_succ]
        refine takeD (i := 9) (v := .bool true) (some 29) rfl rfl (by kernel_rfl) (by kernel_rfl) (by kernel_rfl) (fun _ _ _ h => h) (Or.inl ⟨by rfl, ?_⟩) hS0 ?_
        · rintro w' _
          go_simp
        try simp only [Act.put, List.setIfInBounds_toArray, List.set_cons_zero, List.set_cons_succ]
        refine takeD (i := 10) (v := .pointer (some ⟨m, 0, none⟩)) (some 30) rfl rfl (by kernel_rfl) (by kernel_rfl) (by kernel_rfl) (fun _ _ _ h => h) (Or.inl ⟨by rfl, ?_⟩) hS0 ?_
        · rintro w' _
          go_simp
        try simp only [Act.put, List.setIfInBounds_toArray, List.set_cons_zero, List.set_cons_succ]
        refine takeD (i := 11) (v := .pointer (some ⟨m, 0, none⟩)) (some 31) rfl rfl (by kernel_rfl) (by kernel_rfl) (by kernel_rfl) (fun _ _ _ h => h) (Or.inl ⟨by rfl, ?_⟩) hS0 ?_
        · rintro w' _
          go_simp
        try simp only [Act.put, List.setIfInBounds_toArray, List.set_cons_zero, List.set_cons_succ]
        refine takeD (i := 12) (v := .pointer (some ⟨m, 0, none⟩)) (some 32) rfl rfl (by kernel_rfl) (by kernel_rfl) (by kernel_rfl) (fun _ _ _ h => h) (Or.inl ⟨by rfl, ?_⟩) hS0 ?_
        · rintro w' _
          go_simp
        try simp only [Act.put, List.setIfInBounds_toArray, List.set_cons_zero, List.set_cons_succ]
        refine takeD (i := 13) (v := .slice (some ⟨g1, 0, none⟩) n c) (some 33) rfl rfl (by kernel_rfl) (by kernel_rfl) (by kernel_rfl) (fun _ _ _ h => h) (Or.inl ⟨by rfl, ?_⟩) hS0 ?_
        · rintro w' s0
          have c0 := Vb.cell s0.1 0 rfl
          go_simp
        try simp only [Act.put, List.setIfInBounds_toArray, List.set_cons_zero, List.set_cons_succ]
        refine takeD (i := 14) (v := .int .i64 i) (some 34) rfl rfl (by kernel_rfl) (by kernel_rfl) (by kernel_rfl) (fun _ _ _ h => h) (Or.inl ⟨by rfl, ?_⟩) hS0 ?_
        · rintro w' _
          go_simp
        try simp only [Act.put, List.setIfInBounds_toArray, List.set_cons_zero, List.set_cons_succ]
        refine takeD (i := 15) (v := .pointer (some ⟨g1, i * 13, none⟩)) (some 35) rfl rfl (by kernel_rfl) (by kernel_rfl) (by kernel_rfl) (fun _ _ _ h => h) (Or.inl ⟨by rfl, ?_⟩) hS0 ?_
        · rintro w' _
          go_simp
        try simp only [Act.put, List.setIfInBounds_toArray, List.set_cons_zero, List.set_cons_succ]
        refine takeD (i := 16) (v := .pointer (some ⟨g1, i * 13 + 4, none⟩)) (some 36) rfl rfl (by kernel_rfl) (by kernel_rfl) (by kernel_rfl) (fun _ _ _ h => h) (Or.inl ⟨by rfl, ?_⟩) hS0 ?_
        · rintro w' _
          go_simp
        try simp only [Act.put, List.setIfInBounds_toArray, List.set_cons_zero, List.set_cons_succ]
        refine takeD (i := 17) (v := .agg #[.int .i64 y.r.x.v, .int .i64 y.r.x.m, .int .u8 y.r.x.b0, .int .u8 y.r.x.b1, .int .u8 y.r.x.b2, .int .u8 y.r.x.i0, .int .u8 y.r.x.i1, .int .u8 y.r.x.i2]) (some 37) rfl rfl (by kernel_rfl) (by kernel_rfl) (by kernel_rfl) (fun _ _ _ h => h) (Or.inl ⟨by rfl, ?_⟩) hS0 ?_
        · rintro w' ⟨_, s0, _⟩
          have d4 := Vb.cell s0 (i * 13 + 4) (q4.trans rfl)
          have d5 := Vb.cell s0 (i * 13 + 5) (q5.trans rfl)
          have d6 := Vb.cell s0 (i * 13 + 6) (q6.trans rfl)
          have d7 := Vb.cell s0 (i * 13 + 7) (q7.trans rfl)
          have d8 := Vb.cell s0 (i * 13 + 8) (q8.trans rfl)
          have d9 := Vb.cell s0 (i * 13 + 9) (q9.trans rfl)
          have d10 := Vb.cell s0 (i * 13 + 10) (q10.trans rfl)
          have d11 := Vb.cell s0 (i * 13 + 11) (q11.trans rfl)
          go_simp
        try simp only [Act.put, List.setIfInBounds_toArray, List.set_cons_zero, List.set_cons_succ]
        refine takeD (i := 18) (v := .int .i64 ver) (some 38) rfl rfl (by kernel_rfl) (by kernel_rfl) (by kernel_rfl) (fun _ _ _ h => h) (Or.inl ⟨by rfl, ?_⟩) hS0 ?_
        · rintro w' _
          go_simp
        try simp only [Act.put, List.setIfInBounds_toArray, List.set_cons_zero, List.set_cons_succ]
        refine takeD (i := 19) (v := .int .i64 port) (some 39) rfl rfl (by kernel_rfl) (by kernel_rfl) (by kernel_rfl) (fun _ _ _ h => h) (Or.inl ⟨by rfl, ?_⟩) hS0 ?_
        · rintro w' _
          go_simp
        try simp only [Act.put, List.setIfInBounds_toArray, List.set_cons_zero, List.set_cons_succ]
        refine takeD (i := 20) (v := .agg #[.int .u8 p, .int .u8 q, .int .u8 r]) (some 40) rfl rfl (by kernel_rfl) (by kernel_rfl) (by kernel_rfl) (fun _ _ _ h => h) (Or.inl ⟨by rfl, ?_⟩) hS0 ?_
        · rintro w' ⟨_, _, s0⟩
          have d0 := s0.cell 0 rfl
          have d1 := s0.cell 1 rfl
          have d2 := s0.cell 2 rfl
          go_simp
        try simp only [Act.put, List.setIfInBounds_toArray, List.set_cons_zero, List.set_cons_succ]
        refine wpAnyH_ready (rs := [21]) (by kernel_rfl) (by simp) ?_
        refine AllReadyH.cons rfl (fun K hK => ?_) AllReadyH.nil
        try rw [if_pos (by rfl)]
        go_simp
        go_at_call 94
        refine (refFits_any y.r.x ver port p q r _).mono ?_
        rintro e u1 ⟨rfl, hb1⟩
        rw [← fitsM_is]
        have hS1 : (fun W => Vb 121 W m [.slice (some ⟨g1, 0, none⟩) n c, .int .i64 room] ∧ Rowb W g1 R1 ∧ Vb 26 W gh [.int .u8 p, .int .u8 q, .int .u8 r]) u1 := ⟨Vb.below hS0.1 hb1 (Vb.lt hS0.1), Vb.below hS0.2.1 hb1 (Vb.lt hS0.2.1), Vb.below hS0.2.2 hb1 (Vb.lt hS0.2.2)⟩
        have hbe := hbd.trans (hb1.mono hbd.size)
        refine hK.out _ _ hS1 (fun _ => ?_)
        clear hK K hb1 hbd hS0
        try simp only [Act.put, List.setIfInBounds_toArray, List.set_cons_zero, List.set_cons_succ]
        refine takeD (i := 22) (v := .bool (fitsM y.r.x ver port p q r)) (some 42) rfl rfl (by kernel_rfl) (by kernel_rfl) (by kernel_rfl) (fun _ _ _ h => h) (Or.inl ⟨by rfl, ?_⟩) hS1 ?_
        · rintro w' _
          go_simp
        try simp only [Act.put, List.setIfInBounds_toArray, List.set_cons_zero, List.set_cons_succ]
        refine wpAnyH_done (by kernel_rfl) ?_ _
        cases hft : fitsM y.r.x ver port p q r with
        | true =>
          have HP := Kp.mk (show DataP (rls its) ver port p q r y.r true from .inr ⟨rfl, i, rls_at HY.out, ⟨hk1, hft⟩, fun j x hj hx h => by
            unfold rls at hx
            rw [List.getElem?_map] at hx
            cases hz : its[j]? with
            | none => rw [hz] at hx; simp at hx
            | some z =>
              rw [hz] at hx
              have hx : z.r = x := by simpa using hx
              subst hx
              exact HT.out j z hj hz h⟩)
          have hmt := HM.out _ hbe
          have hox := hmt.outs y (List.mem_of_getElem? HY.out)
          have hr3 := HR.out _ hbe
          have hrow := hS1.2.1
          have c0 := hmt.blk.cell 0 rfl
          have hyz := HYZ.out
          have HCY := Kp.mk (refCopy_any y hox.ro (Nat.le_refl _) HYL.out)
          have HBE := Kp.mk hbe
          clear hS1 hmt hox hbe hk1 hft q0 q1 q2 q3 q4 q5 q6 q7 q8 q9 q10 q11 q12
          go_wp2_with (first | refine wpList_load_vb (vs := [.int .i64 y.r.k, .int .i64 y.r.pr, .int .i64 y.r.to, .int .i64 y.r.po, .int .i64 y.r.x.v, .int .i64 y.r.x.m, .int .u8 y.r.x.b0, .int .u8 y.r.x.b1, .int .u8 y.r.x.b2, .int .u8 y.r.x.i0, .int .u8 y.r.x.i1, .int .u8 y.r.x.i2, .slice y.A y.r.os.length y.c]) rfl (.tmp 48) rfl rfl hrow (fl_off hyz (by omega)) agg_rule ?_ | (refine HCY.out.mono ?_; rintro e w3 ⟨z, hzr, rfl, hzo, hzf, hb3⟩; have hr4 := hr3.below hb3 hr3.lt) | (refine wpList_store_vb (vs := ics z) rfl (.tmp 8) (.tmp 50) rfl rfl rfl hr4 rfl agg_rule rfl ?_; intro w4 hv4 hg4 hz4))
          refine bodyPost_ret (results_pair Try.results64 _ rfl hv4 agg_rule) rfl ?_
          have hB3 := (HB.out.trans (HBE.out.mono HB.out.size)).trans (hb3.mono (HB.out.trans (HBE.out.mono HB.out.size)).size)
          have hG := HGR.out
          refine ⟨z, true, rfl, by rw [hzr]; exact HP.out, hzo.vb hr4 (by decide) hg4, fun hn a e => ?_, hB3.grown hg4 hB3.size (fun k e => by simp at e; omega)⟩
          have h1 := hzf hn a e
          have h2 := (HB.out.trans (HBE.out.mono HB.out.size)).size
          omega
        | false =>
          have HT2 := Kp.mk (show ∀ (j : Nat) (x : It), j < i + 1 → its[j]? = some x → ¬ (x.r.k = 1 ∧ fitsM x.r.x ver port p q r = true) from fun j x hj hx h => by
            by_cases hji : j < i
            · exact HT.out j x hji hx h
            · obtain rfl : j = i := by omega
              rw [HY.out] at hx; rw [← Option.some.inj hx, hft] at h; simp at h)
          clear hS1 hk1 hft q0 q1 q2 q3 q4 q5 q6 q7 q8 q9 q10 q11 q12
          go_wp2_with fail
          go_roundw
          case rel => exact ⟨i + 1, by go_num, by omega, HT2, hbe⟩
          case measure => simp [intOf]; omega
      · skip
        refine takeD (i := 0) (v := .pointer (some ⟨m, 0, none⟩)) (some 20) rfl rfl (by kernel_rfl) (by kernel_rfl) (by kernel_rfl) (fun _ _ _ h => h) (Or.inl ⟨by rfl, ?_⟩) hS0 ?_
        · rintro w' _
          go_simp
        try simp only [Act.put, List.setIfInBounds_toArray, List.set_cons_zero, List.set_cons_succ]
        refine takeD (i := 1) (v := .pointer (some ⟨m, 0, none⟩)) (some 21) rfl rfl (by kernel_rfl) (by kernel_rfl) (by kernel_rfl) (fun _ _ _ h => h) (Or.inl ⟨by rfl, ?_⟩) hS0 ?_
        · rintro w' _
          go_simp
        try simp only [Act.put, List.setIfInBounds_toArray, List.set_cons_zero, List.set_cons_succ]
        refine takeD (i := 2) (v := .pointer (some ⟨m, 0, none⟩)) (some 22) rfl rfl (by kernel_rfl) (by kernel_rfl) (by kernel_rfl) (fun _ _ _ h => h) (Or.inl ⟨by rfl, ?_⟩) hS0 ?_
        · rintro w' _
          go_simp
        try simp only [Act.put, List.setIfInBounds_toArray, List.set_cons_zero, List.set_cons_succ]
        refine takeD (i := 3) (v := .slice (some ⟨g1, 0, none⟩) n c) (some 23) rfl rfl (by kernel_rfl) (by kernel_rfl) (by kernel_rfl) (fun _ _ _ h => h) (Or.inl ⟨by rfl, ?_⟩) hS0 ?_
        · rintro w' s0
          have c0 := Vb.cell s0.1 0 rfl
          go_simp
        try simp only [Act.put, List.setIfInBounds_toArray, List.set_cons_zero, List.set_cons_succ]
        refine takeD (i := 4) (v := .int .i64 i) (some 24) rfl rfl (by kernel_rfl) (by kernel_rfl) (by kernel_rfl) (fun _ _ _ h => h) (Or.inl ⟨by rfl, ?_⟩) hS0 ?_
        · rintro w' _
          go_simp
        try simp only [Act.put, List.setIfInBounds_toArray, List.set_cons_zero, List.set_cons_succ]
        refine takeD (i := 5) (v := .pointer (some ⟨g1, i * 13, none⟩)) (some 25) rfl rfl (by kernel_rfl) (by kernel_rfl) (by kernel_rfl) (fun _ _ _ h => h) (Or.inl ⟨by rfl, ?_⟩) hS0 ?_
        · rintro w' _
          go_simp
        try simp only [Act.put, List.setIfInBounds_toArray, List.set_cons_zero, List.set_cons_succ]
        refine takeD (i := 6) (v := .pointer (some ⟨g1, i * 13, none⟩)) (some 26) rfl rfl (by kernel_rfl) (by kernel_rfl) (by kernel_rfl) (fun _ _ _ h => h) (Or.inl ⟨by rfl, ?_⟩) hS0 ?_
        · rintro w' _
          go_simp
        try simp only [Act.put, List.setIfInBounds_toArray, List.set_cons_zero, List.set_cons_succ]
        refine takeD (i := 7) (v := .int .i64 y.r.k) (some 27) rfl rfl (by kernel_rfl) (by kernel_rfl) (by kernel_rfl) (fun _ _ _ h => h) (Or.inl ⟨by rfl, ?_⟩) hS0 ?_
        · rintro w' ⟨_, s0, _⟩
          have d0 := Vb.cell s0 (i * 13) (q0.trans rfl)
          go_simp
        try simp only [Act.put, List.setIfInBounds_toArray, List.set_cons_zero, List.set_cons_succ]
        refine takeD (i := 8) (v := .bool false) (some 28) rfl rfl (by kernel_rfl) (by kernel_rfl) (by kernel_rfl) (fun _ _ _ h => h) (Or.inl ⟨by rfl, ?_⟩) hS0 ?_
        · rintro w' _
          have he : (y.r.k == 1) = false := by simp [hk1]
          go_simp
        try simp only [Act.put, List.setIfInBounds_toArray, List.set_cons_zero, List.set_cons_succ]
        refine takeD (i := 9) (v := .bool false) (some 29) rfl rfl (by kernel_rfl) (by kernel_rfl) (by kernel_rfl) (fun _ _ _ h => h) (Or.inl ⟨by rfl, ?_⟩) hS0 ?_
        · rintro w' _
          go_simp
        try simp only [Act.put, List.setIfInBounds_toArray, List.set_cons_zero, List.set_cons_succ]
        refine takeD (i := 10) (v := undef) (some 30) rfl rfl (by kernel_rfl) (by kernel_rfl) (by kernel_rfl) (fun _ _ _ h => h) (Or.inr ⟨by rfl, rfl⟩) hS0 ?_
        try simp only [Act.put, List.setIfInBounds_toArray, List.set_cons_zero, List.set_cons_succ]
        refine takeD (i := 11) (v := undef) (some 31) rfl rfl (by kernel_rfl) (by kernel_rfl) (by kernel_rfl) (fun _ _ _ h => h) (Or.inr ⟨by rfl, rfl⟩) hS0 ?_
        try simp only [Act.put, List.setIfInBounds_toArray, List.set_cons_zero, List.set_cons_succ]
        refine takeD (i := 12) (v := undef) (some 32) rfl rfl (by kernel_rfl) (by kernel_rfl) (by kernel_rfl) (fun _ _ _ h => h) (Or.inr ⟨by rfl, rfl⟩) hS0 ?_
        try simp only [Act.put, List.setIfInBounds_toArray, List.set_cons_zero, List.set_cons_succ]
        refine takeD (i := 13) (v := undef) (some 33) rfl rfl (by kernel_rfl) (by kernel_rfl) (by kernel_rfl) (fun _ _ _ h => h) (Or.inr ⟨by rfl, rfl⟩) hS0 ?_
        try simp only [Act.put, List.setIfInBounds_toArray, List.set_cons_zero, List.set_cons_succ]
        refine takeD (i := 14) (v := undef) (some 34) rfl rfl (by kernel_rfl) (by kernel_rfl) (by kernel_rfl) (fun _ _ _ h => h) (Or.inr ⟨by rfl, rfl⟩) hS0 ?_
        try simp only [Act.put, List.setIfInBounds_toArray, List.set_cons_zero, List.set_cons_succ]
        refine takeD (i := 15) (v := undef) (some 35) rfl rfl (by kernel_rfl) (by kernel_rfl) (by kernel_rfl) (fun _ _ _ h => h) (Or.inr ⟨by rfl, rfl⟩) hS0 ?_
        try simp only [Act.put, List.setIfInBounds_toArray, List.set_cons_zero, List.set_cons_succ]
        refine takeD (i := 16) (v := undef) (some 36) rfl rfl (by kernel_rfl) (by kernel_rfl) (by kernel_rfl) (fun _ _ _ h => h) (Or.inr ⟨by rfl, rfl⟩) hS0 ?_
        try simp only [Act.put, List.setIfInBounds_toArray, List.set_cons_zero, List.set_cons_succ]
        refine takeD (i := 17) (v := undef) (some 37) rfl rfl (by kernel_rfl) (by kernel_rfl) (by kernel_rfl) (fun _ _ _ h => h) (Or.inr ⟨by rfl, rfl⟩) hS0 ?_
        try simp only [Act.put, List.setIfInBounds_toArray, List.set_cons_zero, List.set_cons_succ]
        refine takeD (i := 18) (v := undef) (some 38) rfl rfl (by kernel_rfl) (by kernel_rfl) (by kernel_rfl) (fun _ _ _ h => h) (Or.inr ⟨by rfl, rfl⟩) hS0 ?_
        try simp only [Act.put, List.setIfInBounds_toArray, List.set_cons_zero, List.set_cons_succ]
        refine takeD (i := 19) (v := undef) (some 39) rfl rfl (by kernel_rfl) (by kernel_rfl) (by kernel_rfl) (fun _ _ _ h => h) (Or.inr ⟨by rfl, rfl⟩) hS0 ?_
        try simp only [Act.put, List.setIfInBounds_toArray, List.set_cons_zero, List.set_cons_succ]
        refine takeD (i := 20) (v := undef) (some 40) rfl rfl (by kernel_rfl) (by kernel_rfl) (by kernel_rfl) (fun _ _ _ h => h) (Or.inr ⟨by rfl, rfl⟩) hS0 ?_
        try simp only [Act.put, List.setIfInBounds_toArray, List.set_cons_zero, List.set_cons_succ]
        refine takeD (i := 21) (v := undef) (some 41) rfl rfl (by kernel_rfl) (by kernel_rfl) (by kernel_rfl) (fun _ _ _ h => h) (Or.inr ⟨by rfl, rfl⟩) hS0 ?_
        try simp only [Act.put, List.setIfInBounds_toArray, List.set_cons_zero, List.set_cons_succ]
        refine takeD (i := 22) (v := .bool false) (some 42) rfl rfl (by kernel_rfl) (by kernel_rfl) (by kernel_rfl) (fun _ _ _ h => h) (Or.inl ⟨by rfl, ?_⟩) hS0 ?_
        · rintro w' _
          go_simp
        try simp only [Act.put, List.setIfInBounds_toArray, List.set_cons_zero, List.set_cons_succ]
        refine wpAnyH_done (by kernel_rfl) ?_ _
        have HT2 := Kp.mk (show ∀ (j : Nat) (x : It), j < i + 1 → its[j]? = some x → ¬ (x.r.k = 1 ∧ fitsM x.r.x ver port p q r = true) from fun j x hj hx h => by
          by_cases hji : j < i
          · exact HT.out j x hji hx h
          · obtain rfl : j = i := by omega
            rw [HY.out] at hx; rw [← Option.some.inj hx] at h; exact hk1 h.1)
        clear hS0 hk1 q0 q1 q2 q3 q4 q5 q6 q7 q8 q9 q10 q11 q12
        go_wp2_with fail
        go_roundw
        case rel => exact ⟨i + 1, by go_num, by omega, HT2, hbd⟩
        case measure => simp [intOf]; omega
    · obtain rfl : i = n := by omega
      have HP := Kp.mk (show DataP (rls its) ver port p q r zIt.r false from .inl ⟨rfl, rfl, fun x hx => by
        obtain ⟨j, hj⟩ := List.getElem?_of_mem hx
        unfold rls at hj
        rw [List.getElem?_map] at hj
        cases hy : its[j]? with
        | none => rw [hy] at hj; simp at hj
        | some y =>
          rw [hy] at hj
          have hj : y.r = x := by simpa using hj
          subst hj
          exact HT.out j y (by have := (List.getElem?_eq_some_iff.1 hy).1; have := HN.out; omega) hy⟩)
      have hr3 := HR.out _ hbw
      have HBW := Kp.mk (HB.out.trans (hbw.mono HB.out.size))
      clear hmt hblk hbw
      go_wp2_with (first | (refine wpList_store_vb (vs := [.int .i64 0, .int .i64 0, .int .i64 0, .int .i64 0, .int .i64 0, .int .i64 0, .int .u8 0, .int .u8 0, .int .u8 0, .int .u8 0, .int .u8 0, .int .u8 0, .slice none 0 0]) rfl (.tmp 8) (.tmp 51) rfl rfl rfl hr3 rfl agg_rule rfl ?_; intro w4 hv4 hg4 hz4))
      refine bodyPost_ret (results_pair Try.results64 _ rfl hv4 agg_rule) rfl ?_
      have hG := HGR.out
      have hBG := HBW.out.grown hg4 HBW.out.size (fun k e => by simp at e; omega)
      first | exact ⟨zIt, false, rfl, HP.out, Ob.zero _, Fre.zero _, hBG⟩ | exact ⟨zIt, .inl ⟨rfl, HP.out, Ob.zero _, Fre.zero _, hBG⟩⟩
set_option maxRecDepth 100000 in
set_option maxHeartbeats 16000000 in
theorem mLoose (h : Mt w m v room its) (hl : its.length ≤ 1000) (hG : ∀ x ∈ its, MB x.r.x) (mk : MaskV) : Calls Try.prog 92 #[.pointer (some ⟨m, 0, none⟩), .agg (ms mk).toArray] w fun e w' => ∃ v', e = .returned (.int .i64 ((its.length - (its.filter (fun x => !loosP mk x.r)).length : Nat))) ∧ Mt w' m v' room (its.filter (fun x => !loosP mk x.r)) ∧ Fr2 m v.ownBlock w w' ∧ Nw w v v' := by
  have hb0 := below_alloc w (.cells (ms mk).toArray 28)
  have hk : Vb 28 (w.alloc (.cells (ms mk).toArray 28)) w.heap.size [.int .i64 mk.v, .int .i64 mk.m, .int .u8 mk.b0, .int .u8 mk.b1, .int .u8 mk.b2, .int .u8 mk.i0, .int .u8 mk.i1, .int .u8 mk.i2] := Vb.new 28 w (ms mk)
  have HST := Kp.mk (fun (w1 : World) (v2 : Value) (its2 : List It) (hb : Below w.heap.size w w1) => mt_store (v2 := v2) (its2 := its2) h hb)
  have h0 := h.below hb0
  obtain ⟨A, c, rfl, hc1, hmax⟩ := mt_form h
  obtain ⟨n, hn⟩ : ∃ n, n = its.length := ⟨_, rfl⟩
  have HN := Kp.mk hn
  rw [← hn] at h0 hmax hc1 hl
  have HL := Kp.mk hl
  have HG := Kp.mk hG
  have HX := Kp.mk (fun (y : It) (hy : y ∈ its) => coversP_is mk y.r.x (hG y hy).1 (hG y hy).2.1 (hG y hy).2.2.1)
  clear h hn hG hl
  go_enter Try.func92, Try.ntmps92
  go_upto_region 1 with fail
  generalize w.alloc (.cells (ms mk).toArray 28) = w0 at *
  obtain ⟨gk, hgk⟩ : ∃ g, g = w.heap.size := ⟨_, rfl⟩
  rw [← hgk] at hk ⊢
  clear hgk
  have HM := Kp.mk (fun W (hb : Below w0.heap.size w0 W) => h0.below hb)
  have HK := Kp.mk (fun W (hb : Below w0.heap.size w0 W) => hk.below hb hk.lt)
  have HB := Kp.mk hb0
  have hbz := Below.refl w0.heap.size w0
  have hr0 := RowS.nil w0
  clear h0 hk hb0
  go_wp2_with fail
  go_loopw [5, 6] (fun s5 s6 wr => ∃ (i : Nat) (os : List It), s6 = .int .i64 i ∧ i ≤ n ∧ RowS wr s5 os ∧ Kp (os = (its.take i).filter (fun x => !loosP mk x.r)) ∧ Kp (∀ k, s5.ownBlock = some k → w0.heap.size ≤ k) ∧ Below w0.heap.size w0 wr) (fun _ s6 _ => n - (intOf s6).toNat)
  case atStart => exact ⟨0, [], rfl, Nat.zero_le _, hr0, Kp.mk rfl, Kp.mk (fun k hk => by simp [Value.ownBlock] at hk), hbz⟩
  case round =>
    clear hbz hr0
    obtain ⟨i, os, rfl, hi, hR, HE, HF, hbw⟩ := hrel
    have hmt := HM.out _ hbw
    have hblk := hmt.blk
    have c0 := hblk.cell 0 rfl
    have HOL := Kp.mk (show os.length ≤ i by rw [HE.out]; exact Nat.le_trans (List.length_filter_le _ _) (by rw [List.length_take]; omega))
    by_cases hlt : (i : Int) < n
    · obtain ⟨y, hy⟩ : ∃ y, its[i]? = some y := ⟨_, List.getElem?_eq_getElem (by have := HN.out; omega)⟩
      have HY := Kp.mk hy
      have HCV := Kp.mk (HX.out y (List.mem_of_getElem? hy))
      obtain ⟨g1, sp1, rfl, hrow, hyz⟩ := mt_at hmt hy
      have HYZ := Kp.mk hyz
      generalize its ++ sp1 = R1 at *
      have hk := HK.out _ hbw
      have HTS := Kp.mk (show (its.take (i + 1)).filter (fun x => !loosP mk x.r) = os ++ (if loosP mk y.r then [] else [y]) by
        rw [take_snocI HY.out, List.filter_append, ← HE.out]
        cases hq : loosP mk y.r <;> simp [hq])
      clear hy hmt
      have q0 := fl_get R1 i 0 y hyz (by omega)
      have q1 := fl_get R1 i 1 y hyz (by omega)
      have q2 := fl_get R1 i 2 y hyz (by omega)
      have q3 := fl_get R1 i 3 y hyz (by omega)
      have q4 := fl_get R1 i 4 y hyz (by omega)
      have q5 := fl_get R1 i 5 y hyz (by omega)
      have q6 := fl_get R1 i 6 y hyz (by omega)
      have q7 := fl_get R1 i 7 y hyz (by omega)
      have q8 := fl_get R1 i 8 y hyz (by omega)
      have q9 := fl_get R1 i 9 y hyz (by omega)
      have q10 := fl_get R1 i 10 y hyz (by omega)
      have q11 := fl_get R1 i 11 y hyz (by omega)
      have q12 := fl_get R1 i 12 y hyz (by omega)
      rw [Nat.add_zero] at q0
      go_upto_region 5 with fail
      clear c0
      have hR0 := hR.below (Below.refl wr.heap.size wr).drew
      have hS0 : (fun W => Vb 121 W m [.slice (some ⟨g1, 0, none⟩) n c, .int .i64 room] ∧ Rowb W g1 R1 ∧ Vb 28 W gk [.int .i64 mk.v, .int .i64 mk.m, .int .u8 mk.b0, .int .u8 mk.b1, .int .u8 mk.b2, .int .u8 mk.i0, .int .u8 mk.i1, .int .u8 mk.i2]) wr.drew := ⟨hblk, hrow, hk⟩
      have hbd := hbw.drew
      refine wp_region_held_drew (S := fun W => Vb 121 W m [.slice (some ⟨g1, 0, none⟩) n c, .int .i64 room] ∧ Rowb W g1 R1 ∧ Vb 28 W gk [.int .i64 mk.v, .int .i64 mk.m, .int .u8 mk.b0, .int .u8 mk.b1, .int .u8 mk.b2, .int .u8 mk.i0, .int .u8 mk.i1, .int .u8 mk.i2]) (by kernel_rfl) hS0 (fun _ => ?_)
      clear hblk hrow hk hbw hR
      generalize wr.drew = u0 at *
      by_cases hk1 : y.r.k = 1
      · have HLP := Kp.mk (show loosP mk y.r = coversP mk y.r.x by unfold loosP; simp [hk1])
        refine takeD (i := 0) (v := .pointer (some ⟨m, 0, none⟩)) (some 17) rfl rfl (by kernel_rfl) (by kernel_rfl) (by kernel_rfl) (fun _ _ _ h => h) (Or.inl ⟨by rfl, ?_⟩) hS0 ?_
        · rintro w' _
          go_simp
        try simp only [Act.put, List.setIfInBounds_toArray, List.set_cons_zero, List.set_cons_succ]
        refine takeD (i := 1) (v := .pointer (some ⟨m, 0, none⟩)) (some 18) rfl rfl (by kernel_rfl) (by kernel_rfl) (by kernel_rfl) (fun _ _ _ h => h) (Or.inl ⟨by rfl, ?_⟩) hS0 ?_
        · rintro w' _
          go_simp
        try simp only [Act.put, List.setIfInBounds_toArray, List.set_cons_zero, List.set_cons_succ]
        refine takeD (i := 2) (v := .pointer (some ⟨m, 0, none⟩)) (some 19) rfl rfl (by kernel_rfl) (by kernel_rfl) (by kernel_rfl) (fun _ _ _ h => h) (Or.inl ⟨by rfl, ?_⟩) hS0 ?_
        · rintro w' _
          go_simp
        try simp only [Act.put, List.setIfInBounds_toArray, List.set_cons_zero, List.set_cons_succ]
        refine takeD (i := 3) (v := .slice (some ⟨g1, 0, none⟩) n c) (some 20) rfl rfl (by kernel_rfl) (by kernel_rfl) (by kernel_rfl) (fun _ _ _ h => h) (Or.inl ⟨by rfl, ?_⟩) hS0 ?_
        · rintro w' s0
          have c0 := Vb.cell s0.1 0 rfl
          go_simp
        try simp only [Act.put, List.setIfInBounds_toArray, List.set_cons_zero, List.set_cons_succ]
        refine takeD (i := 4) (v := .int .i64 i) (some 21) rfl rfl (by kernel_rfl) (by kernel_rfl) (by kernel_rfl) (fun _ _ _ h => h) (Or.inl ⟨by rfl, ?_⟩) hS0 ?_
        · rintro w' _
          go_simp
        try simp only [Act.put, List.setIfInBounds_toArray, List.set_cons_zero, List.set_cons_succ]
        refine takeD (i := 5) (v := .pointer (some ⟨g1, i * 13, none⟩)) (some 22) rfl rfl (by kernel_rfl) (by kernel_rfl) (by kernel_rfl) (fun _ _ _ h => h) (Or.inl ⟨by rfl, ?_⟩) hS0 ?_
        · rintro w' _
          go_simp
        try simp only [Act.put, List.setIfInBounds_toArray, List.set_cons_zero, List.set_cons_succ]
        refine takeD (i := 6) (v := .pointer (some ⟨g1, i * 13, none⟩)) (some 23) rfl rfl (by kernel_rfl) (by kernel_rfl) (by kernel_rfl) (fun _ _ _ h => h) (Or.inl ⟨by rfl, ?_⟩) hS0 ?_
        · rintro w' _
          go_simp
        try simp only [Act.put, List.setIfInBounds_toArray, List.set_cons_zero, List.set_cons_succ]
        refine takeD (i := 7) (v := .int .i64 y.r.k) (some 24) rfl rfl (by kernel_rfl) (by kernel_rfl) (by kernel_rfl) (fun _ _ _ h => h) (Or.inl ⟨by rfl, ?_⟩) hS0 ?_
        · rintro w' ⟨_, s0, _⟩
          have d0 := Vb.cell s0 (i * 13) (q0.trans rfl)
          go_simp
        try simp only [Act.put, List.setIfInBounds_toArray, List.set_cons_zero, List.set_cons_succ]
        refine takeD (i := 8) (v := .bool false) (some 25) rfl rfl (by kernel_rfl) (by kernel_rfl) (by kernel_rfl) (fun _ _ _ h => h) (Or.inl ⟨by rfl, ?_⟩) hS0 ?_
        · rintro w' _
          have he : (y.r.k != 1) = false := by simp [hk1]
          go_simp
        try simp only [Act.put, List.setIfInBounds_toArray, List.set_cons_zero, List.set_cons_succ]
        refine takeD (i := 9) (v := .bool false) (some 26) rfl rfl (by kernel_rfl) (by kernel_rfl) (by kernel_rfl) (fun _ _ _ h => h) (Or.inl ⟨by rfl, ?_⟩) hS0 ?_
        · rintro w' _
          go_simp
        try simp only [Act.put, List.setIfInBounds_toArray, List.set_cons_zero, List.set_cons_succ]
        refine takeD (i := 10) (v := .agg #[.int .i64 mk.v, .int .i64 mk.m, .int .u8 mk.b0, .int .u8 mk.b1, .int .u8 mk.b2, .int .u8 mk.i0, .int .u8 mk.i1, .int .u8 mk.i2]) (some 27) rfl rfl (by kernel_rfl) (by kernel_rfl) (by kernel_rfl) (fun _ _ _ h => h) (Or.inl ⟨by rfl, ?_⟩) hS0 ?_
        · rintro w' ⟨_, _, s0⟩
          have d0 := s0.cell 0 rfl
          have d1 := s0.cell 1 rfl
          have d2 := s0.cell 2 rfl
          have d3 := s0.cell 3 rfl
          have d4 := s0.cell 4 rfl
          have d5 := s0.cell 5 rfl
          have d6 := s0.cell 6 rfl
          have d7 := s0.cell 7 rfl
          go_simp
        try simp only [Act.put, List.setIfInBounds_toArray, List.set_cons_zero, List.set_cons_succ]
        refine takeD (i := 11) (v := .pointer (some ⟨m, 0, none⟩)) (some 28) rfl rfl (by kernel_rfl) (by kernel_rfl) (by kernel_rfl) (fun _ _ _ h => h) (Or.inl ⟨by rfl, ?_⟩) hS0 ?_
        · rintro w' _
          go_simp
        try simp only [Act.put, List.setIfInBounds_toArray, List.set_cons_zero, List.set_cons_succ]
        refine takeD (i := 12) (v := .pointer (some ⟨m, 0, none⟩)) (some 29) rfl rfl (by kernel_rfl) (by kernel_rfl) (by kernel_rfl) (fun _ _ _ h => h) (Or.inl ⟨by rfl, ?_⟩) hS0 ?_
        · rintro w' _
          go_simp
        try simp only [Act.put, List.setIfInBounds_toArray, List.set_cons_zero, List.set_cons_succ]
        refine takeD (i := 13) (v := .pointer (some ⟨m, 0, none⟩)) (some 30) rfl rfl (by kernel_rfl) (by kernel_rfl) (by kernel_rfl) (fun _ _ _ h => h) (Or.inl ⟨by rfl, ?_⟩) hS0 ?_
        · rintro w' _
          go_simp
        try simp only [Act.put, List.setIfInBounds_toArray, List.set_cons_zero, List.set_cons_succ]
        refine takeD (i := 14) (v := .slice (some ⟨g1, 0, none⟩) n c) (some 31) rfl rfl (by kernel_rfl) (by kernel_rfl) (by kernel_rfl) (fun _ _ _ h => h) (Or.inl ⟨by rfl, ?_⟩) hS0 ?_
        · rintro w' s0
          have c0 := Vb.cell s0.1 0 rfl
          go_simp
        try simp only [Act.put, List.setIfInBounds_toArray, List.set_cons_zero, List.set_cons_succ]
        refine takeD (i := 15) (v := .int .i64 i) (some 32) rfl rfl (by kernel_rfl) (by kernel_rfl) (by kernel_rfl) (fun _ _ _ h => h) (Or.inl ⟨by rfl, ?_⟩) hS0 ?_
        · rintro w' _
          go_simp
        try simp only [Act.put, List.setIfInBounds_toArray, List.set_cons_zero, List.set_cons_succ]
        refine takeD (i := 16) (v := .pointer (some ⟨g1, i * 13, none⟩)) (some 33) rfl rfl (by kernel_rfl) (by kernel_rfl) (by kernel_rfl) (fun _ _ _ h => h) (Or.inl ⟨by rfl, ?_⟩) hS0 ?_
        · rintro w' _
          go_simp
        try simp only [Act.put, List.setIfInBounds_toArray, List.set_cons_zero, List.set_cons_succ]
        refine takeD (i := 17) (v := .pointer (some ⟨g1, i * 13 + 4, none⟩)) (some 34) rfl rfl (by kernel_rfl) (by kernel_rfl) (by kernel_rfl) (fun _ _ _ h => h) (Or.inl ⟨by rfl, ?_⟩) hS0 ?_
        · rintro w' _
          go_simp
        try simp only [Act.put, List.setIfInBounds_toArray, List.set_cons_zero, List.set_cons_succ]
        refine takeD (i := 18) (v := .agg #[.int .i64 y.r.x.v, .int .i64 y.r.x.m, .int .u8 y.r.x.b0, .int .u8 y.r.x.b1, .int .u8 y.r.x.b2, .int .u8 y.r.x.i0, .int .u8 y.r.x.i1, .int .u8 y.r.x.i2]) (some 35) rfl rfl (by kernel_rfl) (by kernel_rfl) (by kernel_rfl) (fun _ _ _ h => h) (Or.inl ⟨by rfl, ?_⟩) hS0 ?_
        · rintro w' ⟨_, s0, _⟩
          have d4 := Vb.cell s0 (i * 13 + 4) (q4.trans rfl)
          have d5 := Vb.cell s0 (i * 13 + 5) (q5.trans rfl)
          have d6 := Vb.cell s0 (i * 13 + 6) (q6.trans rfl)
          have d7 := Vb.cell s0 (i * 13 + 7) (q7.trans rfl)
          have d8 := Vb.cell s0 (i * 13 + 8) (q8.trans rfl)
          have d9 := Vb.cell s0 (i * 13 + 9) (q9.trans rfl)
          have d10 := Vb.cell s0 (i * 13 + 10) (q10.trans rfl)
          have d11 := Vb.cell s0 (i * 13 + 11) (q11.trans rfl)
          go_simp
        try simp only [Act.put, List.setIfInBounds_toArray, List.set_cons_zero, List.set_cons_succ]
        refine wpAnyH_ready (rs := [19]) (by kernel_rfl) (by simp) ?_
        refine AllReadyH.cons rfl (fun K hK => ?_) AllReadyH.nil
        try rw [if_pos (by rfl)]
        go_simp
        go_at_call 105
        refine (refCovers_any mk y.r.x _).mono ?_
        rintro e u1 ⟨rfl, hb1⟩
        rw [← HCV.out]
        have hS1 : (fun W => Vb 121 W m [.slice (some ⟨g1, 0, none⟩) n c, .int .i64 room] ∧ Rowb W g1 R1 ∧ Vb 28 W gk [.int .i64 mk.v, .int .i64 mk.m, .int .u8 mk.b0, .int .u8 mk.b1, .int .u8 mk.b2, .int .u8 mk.i0, .int .u8 mk.i1, .int .u8 mk.i2]) u1 := ⟨Vb.below hS0.1 hb1 (Vb.lt hS0.1), Vb.below hS0.2.1 hb1 (Vb.lt hS0.2.1), Vb.below hS0.2.2 hb1 (Vb.lt hS0.2.2)⟩
        have hbe := hbd.trans (hb1.mono hbd.size)
        have hR1 := hR0.below hb1
        refine hK.out _ _ hS1 (fun _ => ?_)
        clear hK K hb1 hbd hS0 hR0
        try simp only [Act.put, List.setIfInBounds_toArray, List.set_cons_zero, List.set_cons_succ]
        cases hcv : coversP mk y.r.x with
        | true =>
          refine takeD (i := 20) (v := .bool false) (some 37) rfl rfl (by kernel_rfl) (by kernel_rfl) (by kernel_rfl) (fun _ _ _ h => h) (Or.inl ⟨by rfl, ?_⟩) hS1 ?_
          · rintro w' _
            go_simp
          try simp only [Act.put, List.setIfInBounds_toArray, List.set_cons_zero, List.set_cons_succ]
          refine takeD (i := 21) (v := .bool false) (some 38) rfl rfl (by kernel_rfl) (by kernel_rfl) (by kernel_rfl) (fun _ _ _ h => h) (Or.inl ⟨by rfl, ?_⟩) hS1 ?_
          · rintro w' _
            go_simp
          try simp only [Act.put, List.setIfInBounds_toArray, List.set_cons_zero, List.set_cons_succ]
          refine wpAnyH_done (by kernel_rfl) ?_ _
          have HE2 := Kp.mk (show os = (its.take (i + 1)).filter (fun x => !loosP mk x.r) by rw [HTS.out, HLP.out, hcv]; simp)
          clear hS1 hk1 hcv q0 q1 q2 q3 q4 q5 q6 q7 q8 q9 q10 q11 q12
          go_wp2_with fail
          go_roundw
          case rel => exact ⟨i + 1, os, by go_num, by omega, hR1, HE2, HF, hbe⟩
          case measure => simp [intOf]; omega
        | false =>
          refine takeD (i := 20) (v := .bool true) (some 37) rfl rfl (by kernel_rfl) (by kernel_rfl) (by kernel_rfl) (fun _ _ _ h => h) (Or.inl ⟨by rfl, ?_⟩) hS1 ?_
          · rintro w' _
            go_simp
          try simp only [Act.put, List.setIfInBounds_toArray, List.set_cons_zero, List.set_cons_succ]
          refine takeD (i := 21) (v := .bool true) (some 38) rfl rfl (by kernel_rfl) (by kernel_rfl) (by kernel_rfl) (fun _ _ _ h => h) (Or.inl ⟨by rfl, ?_⟩) hS1 ?_
          · rintro w' _
            go_simp
          try simp only [Act.put, List.setIfInBounds_toArray, List.set_cons_zero, List.set_cons_succ]
          refine wpAnyH_done (by kernel_rfl) ?_ _
          have HE2 := Kp.mk (show os ++ [y] = (its.take (i + 1)).filter (fun x => !loosP mk x.r) by rw [HTS.out, HLP.out, hcv]; rfl)
          clear hk1 hcv
          have hrow := hS1.2.1
          have hblk := hS1.1
          have c0 := Vb.cell hblk 0 rfl
          have hyz := HYZ.out
          clear hS1
          generalize hu1 : u1 = U1 at *
          have hr5 := rowb_one U1 y
          have hb5 := below_alloc U1 (.cells #[.int .i64 y.r.k, .int .i64 y.r.pr, .int .i64 y.r.to, .int .i64 y.r.po, .int .i64 y.r.x.v, .int .i64 y.r.x.m, .int .u8 y.r.x.b0, .int .u8 y.r.x.b1, .int .u8 y.r.x.b2, .int .u8 y.r.x.i0, .int .u8 y.r.x.i1, .int .u8 y.r.x.i2, .slice y.A y.r.os.length y.c] 31)
          have hR5 := hR1.below hb5
          obtain ⟨v7, w7, hrun7, hR7, hg7, hN7⟩ := run_appendR (c := 1) 39 hR5 (⟨rfl, .inr ⟨U1.heap.size, 0, [y], by simp, hr5, by simp, rfl⟩⟩ : SrcR _ (some ⟨U1.heap.size, 0, none⟩) 1 [y]) (by have := HOL.out; have := HL.out; omega)
          have hB5 := hbe.trans (hb5.mono hbe.size)
          have hB7 := hB5.grown hg7 hB5.size (fun q e => HF.out q e)
          have HF2 := Kp.mk (show ∀ k, v7.ownBlock = some k → w0.heap.size ≤ k from fun q hq => by
            rcases hN7 with e | ⟨q2, e, h2⟩
            · exact HF.out q (e ▸ hq)
            · rw [e] at hq; have := Option.some.inj hq; have := hB5.size; omega)
          clear hr5 hb5 hR5 hg7 hN7 hB5 hR1 hbe q0 q1 q2 q3 q4 q5 q6 q7 q8 q9 q10 q11 q12
          go_wp2_with (first | refine wpList_load_vb (vs := [.int .i64 y.r.k, .int .i64 y.r.pr, .int .i64 y.r.to, .int .i64 y.r.po, .int .i64 y.r.x.v, .int .i64 y.r.x.m, .int .u8 y.r.x.b0, .int .u8 y.r.x.b1, .int .u8 y.r.x.b2, .int .u8 y.r.x.i0, .int .u8 y.r.x.i1, .int .u8 y.r.x.i2, .slice y.A y.r.os.length y.c]) rfl (.tmp 45) rfl rfl hrow (fl_off hyz (by omega)) agg_rule ?_ | (at_builtin; refine Lib.wpList_append_run _ rfl _ _ _ _ rfl _ _ rfl rfl _ _ hrun7 ?_))
          go_roundw
          case rel => exact ⟨i + 1, os ++ [y], by go_num, by omega, hR7, HE2, HF2, hB7⟩
          case measure => simp [intOf]; omega
      · have HLP := Kp.mk (show loosP mk y.r = false by unfold loosP; simp [hk1])
        refine takeD (i := 0) (v := .pointer (some ⟨m, 0, none⟩)) (some 17) rfl rfl (by kernel_rfl) (by kernel_rfl) (by kernel_rfl) (fun _ _ _ h => h) (Or.inl ⟨by rfl, ?_⟩) hS0 ?_
        · rintro w' _
          go_simp
        try simp only [Act.put, List.setIfInBounds_toArray, List.set_cons_zero, List.set_cons_succ]
        refine takeD (i := 1) (v := .pointer (some ⟨m, 0, none⟩)) (some 18) rfl rfl (by kernel_rfl) (by kernel_rfl) (by kernel_rfl) (fun _ _ _ h => h) (Or.inl ⟨by rfl, ?_⟩) hS0 ?_
        · rintro w' _
          go_simp
        try simp only [Act.put, List.setIfInBounds_toArray, List.set_cons_zero, List.set_cons_succ]
        refine takeD (i := 2) (v := .pointer (some ⟨m, 0, none⟩)) (some 19) rfl rfl (by kernel_rfl) (by kernel_rfl) (by kernel_rfl) (fun _ _ _ h => h) (Or.inl ⟨by rfl, ?_⟩) hS0 ?_
        · rintro w' _
          go_simp
        try simp only [Act.put, List.setIfInBounds_toArray, List.set_cons_zero, List.set_cons_succ]
        refine takeD (i := 3) (v := .slice (some ⟨g1, 0, none⟩) n c) (some 20) rfl rfl (by kernel_rfl) (by kernel_rfl) (by kernel_rfl) (fun _ _ _ h => h) (Or.inl ⟨by rfl, ?_⟩) hS0 ?_
        · rintro w' s0
          have c0 := Vb.cell s0.1 0 rfl
          go_simp
        try simp only [Act.put, List.setIfInBounds_toArray, List.set_cons_zero, List.set_cons_succ]
        refine takeD (i := 4) (v := .int .i64 i) (some 21) rfl rfl (by kernel_rfl) (by kernel_rfl) (by kernel_rfl) (fun _ _ _ h => h) (Or.inl ⟨by rfl, ?_⟩) hS0 ?_
        · rintro w' _
          go_simp
        try simp only [Act.put, List.setIfInBounds_toArray, List.set_cons_zero, List.set_cons_succ]
        refine takeD (i := 5) (v := .pointer (some ⟨g1, i * 13, none⟩)) (some 22) rfl rfl (by kernel_rfl) (by kernel_rfl) (by kernel_rfl) (fun _ _ _ h => h) (Or.inl ⟨by rfl, ?_⟩) hS0 ?_
        · rintro w' _
          go_simp
        try simp only [Act.put, List.setIfInBounds_toArray, List.set_cons_zero, List.set_cons_succ]
        refine takeD (i := 6) (v := .pointer (some ⟨g1, i * 13, none⟩)) (some 23) rfl rfl (by kernel_rfl) (by kernel_rfl) (by kernel_rfl) (fun _ _ _ h => h) (Or.inl ⟨by rfl, ?_⟩) hS0 ?_
        · rintro w' _
          go_simp
        try simp only [Act.put, List.setIfInBounds_toArray, List.set_cons_zero, List.set_cons_succ]
        refine takeD (i := 7) (v := .int .i64 y.r.k) (some 24) rfl rfl (by kernel_rfl) (by kernel_rfl) (by kernel_rfl) (fun _ _ _ h => h) (Or.inl ⟨by rfl, ?_⟩) hS0 ?_
        · rintro w' ⟨_, s0, _⟩
          have d0 := Vb.cell s0 (i * 13) (q0.trans rfl)
          go_simp
        try simp only [Act.put, List.setIfInBounds_toArray, List.set_cons_zero, List.set_cons_succ]
        refine takeD (i := 8) (v := .bool true) (some 25) rfl rfl (by kernel_rfl) (by kernel_rfl) (by kernel_rfl) (fun _ _ _ h => h) (Or.inl ⟨by rfl, ?_⟩) hS0 ?_
        · rintro w' _
          have he : (y.r.k != 1) = true := by simp [hk1]
          go_simp
        try simp only [Act.put, List.setIfInBounds_toArray, List.set_cons_zero, List.set_cons_succ]
        refine takeD (i := 9) (v := .bool true) (some 26) rfl rfl (by kernel_rfl) (by kernel_rfl) (by kernel_rfl) (fun _ _ _ h => h) (Or.inl ⟨by rfl, ?_⟩) hS0 ?_
        · rintro w' _
          go_simp
        try simp only [Act.put, List.setIfInBounds_toArray, List.set_cons_zero, List.set_cons_succ]
        refine takeD (i := 10) (v := undef) (some 27) rfl rfl (by kernel_rfl) (by kernel_rfl) (by kernel_rfl) (fun _ _ _ h => h) (Or.inr ⟨by rfl, rfl⟩) hS0 ?_
        try simp only [Act.put, List.setIfInBounds_toArray, List.set_cons_zero, List.set_cons_succ]
        refine takeD (i := 11) (v := undef) (some 28) rfl rfl (by kernel_rfl) (by kernel_rfl) (by kernel_rfl) (fun _ _ _ h => h) (Or.inr ⟨by rfl, rfl⟩) hS0 ?_
        try simp only [Act.put, List.setIfInBounds_toArray, List.set_cons_zero, List.set_cons_succ]
        refine takeD (i := 12) (v := undef) (some 29) rfl rfl (by kernel_rfl) (by kernel_rfl) (by kernel_rfl) (fun _ _ _ h => h) (Or.inr ⟨by rfl, rfl⟩) hS0 ?_
        try simp only [Act.put, List.setIfInBounds_toArray, List.set_cons_zero, List.set_cons_succ]
        refine takeD (i := 13) (v := undef) (some 30) rfl rfl (by kernel_rfl) (by kernel_rfl) (by kernel_rfl) (fun _ _ _ h => h) (Or.inr ⟨by rfl, rfl⟩) hS0 ?_
        try simp only [Act.put, List.setIfInBounds_toArray, List.set_cons_zero, List.set_cons_succ]
        refine takeD (i := 14) (v := undef) (some 31) rfl rfl (by kernel_rfl) (by kernel_rfl) (by kernel_rfl) (fun _ _ _ h => h) (Or.inr ⟨by rfl, rfl⟩) hS0 ?_
        try simp only [Act.put, List.setIfInBounds_toArray, List.set_cons_zero, List.set_cons_succ]
        refine takeD (i := 15) (v := undef) (some 32) rfl rfl (by kernel_rfl) (by kernel_rfl) (by kernel_rfl) (fun _ _ _ h => h) (Or.inr ⟨by rfl, rfl⟩) hS0 ?_
        try simp only [Act.put, List.setIfInBounds_toArray, List.set_cons_zero, List.set_cons_succ]
        refine takeD (i := 16) (v := undef) (some 33) rfl rfl (by kernel_rfl) (by kernel_rfl) (by kernel_rfl) (fun _ _ _ h => h) (Or.inr ⟨by rfl, rfl⟩) hS0 ?_
        try simp only [Act.put, List.setIfInBounds_toArray, List.set_cons_zero, List.set_cons_succ]
        refine takeD (i := 17) (v := undef) (some 34) rfl rfl (by kernel_rfl) (by kernel_rfl) (by kernel_rfl) (fun _ _ _ h => h) (Or.inr ⟨by rfl, rfl⟩) hS0 ?_
        try simp only [Act.put, List.setIfInBounds_toArray, List.set_cons_zero, List.set_cons_succ]
        refine takeD (i := 18) (v := undef) (some 35) rfl rfl (by kernel_rfl) (by kernel_rfl) (by kernel_rfl) (fun _ _ _ h => h) (Or.inr ⟨by rfl, rfl⟩) hS0 ?_
        try simp only [Act.put, List.setIfInBounds_toArray, List.set_cons_zero, List.set_cons_succ]
        refine takeD (i := 19) (v := undef) (some 36) rfl rfl (by kernel_rfl) (by kernel_rfl) (by kernel_rfl) (fun _ _ _ h => h) (Or.inr ⟨by rfl, rfl⟩) hS0 ?_
        try simp only [Act.put, List.setIfInBounds_toArray, List.set_cons_zero, List.set_cons_succ]
        refine takeD (i := 20) (v := undef) (some 37) rfl rfl (by kernel_rfl) (by kernel_rfl) (by kernel_rfl) (fun _ _ _ h => h) (Or.inr ⟨by rfl, rfl⟩) hS0 ?_
        try simp only [Act.put, List.setIfInBounds_toArray, List.set_cons_zero, List.set_cons_succ]
        refine takeD (i := 21) (v := .bool true) (some 38) rfl rfl (by kernel_rfl) (by kernel_rfl) (by kernel_rfl) (fun _ _ _ h => h) (Or.inl ⟨by rfl, ?_⟩) hS0 ?_
        · rintro w' _
          go_simp
        try simp only [Act.put, List.setIfInBounds_toArray, List.set_cons_zero, List.set_cons_succ]
        refine wpAnyH_done (by kernel_rfl) ?_ _
        have HE2 := Kp.mk (show os ++ [y] = (its.take (i + 1)).filter (fun x => !loosP mk x.r) by rw [HTS.out, HLP.out]; rfl)
        clear hk1
        have hrow := hS0.2.1
        have hblk := hS0.1
        have c0 := Vb.cell hblk 0 rfl
        have hyz := HYZ.out
        clear hS0
        generalize hu1 : u0 = U1 at *
        have hr5 := rowb_one U1 y
        have hb5 := below_alloc U1 (.cells #[.int .i64 y.r.k, .int .i64 y.r.pr, .int .i64 y.r.to, .int .i64 y.r.po, .int .i64 y.r.x.v, .int .i64 y.r.x.m, .int .u8 y.r.x.b0, .int .u8 y.r.x.b1, .int .u8 y.r.x.b2, .int .u8 y.r.x.i0, .int .u8 y.r.x.i1, .int .u8 y.r.x.i2, .slice y.A y.r.os.length y.c] 31)
        have hR5 := hR0.below hb5
        obtain ⟨v7, w7, hrun7, hR7, hg7, hN7⟩ := run_appendR (c := 1) 39 hR5 (⟨rfl, .inr ⟨U1.heap.size, 0, [y], by simp, hr5, by simp, rfl⟩⟩ : SrcR _ (some ⟨U1.heap.size, 0, none⟩) 1 [y]) (by have := HOL.out; have := HL.out; omega)
        have hB5 := hbd.trans (hb5.mono hbd.size)
        have hB7 := hB5.grown hg7 hB5.size (fun q e => HF.out q e)
        have HF2 := Kp.mk (show ∀ k, v7.ownBlock = some k → w0.heap.size ≤ k from fun q hq => by
          rcases hN7 with e | ⟨q2, e, h2⟩
          · exact HF.out q (e ▸ hq)
          · rw [e] at hq; have := Option.some.inj hq; have := hB5.size; omega)
        clear hr5 hb5 hR5 hg7 hN7 hB5 hR0 hbd q0 q1 q2 q3 q4 q5 q6 q7 q8 q9 q10 q11 q12
        go_wp2_with (first | refine wpList_load_vb (vs := [.int .i64 y.r.k, .int .i64 y.r.pr, .int .i64 y.r.to, .int .i64 y.r.po, .int .i64 y.r.x.v, .int .i64 y.r.x.m, .int .u8 y.r.x.b0, .int .u8 y.r.x.b1, .int .u8 y.r.x.b2, .int .u8 y.r.x.i0, .int .u8 y.r.x.i1, .int .u8 y.r.x.i2, .slice y.A y.r.os.length y.c]) rfl (.tmp 45) rfl rfl hrow (fl_off hyz (by omega)) agg_rule ?_ | (at_builtin; refine Lib.wpList_append_run _ rfl _ _ _ _ rfl _ _ rfl rfl _ _ hrun7 ?_))
        go_roundw
        case rel => exact ⟨i + 1, os ++ [y], by go_num, by omega, hR7, HE2, HF2, hB7⟩
        case measure => simp [intOf]; omega
    · obtain rfl : i = n := by omega
      have HE2 := Kp.mk (show os = its.filter (fun x => !loosP mk x.r) by rw [HE.out, HN.out, List.take_length])
      have hmo := (fun y (hy : y ∈ os) => hmt.outs y (by rw [HE2.out] at hy; exact (List.mem_filter.1 hy).1))
      obtain ⟨A9, c9, hv9, _⟩ := hR.form
      obtain ⟨L9, hL9⟩ : ∃ L, L = os.length := ⟨_, rfl⟩
      have HL9 := Kp.mk hL9
      rw [← hL9] at hv9
      clear hL9
      subst hv9
      have hBW := HB.out.trans (hbw.mono HB.out.size)
      have HS := Kp.mk (HST.out wr (.slice A9 L9 c9) os hBW hR hmo (fun k hk => Nat.le_trans HB.out.size (HF.out k hk)))
      have hf := hblk.free
      have hLi : L9 ≤ i := by have := HOL.out; have := HL9.out; omega
      have hw64 : IntKind.i64.wrap ((i : Int) - (L9 : Int)) = ((i - L9 : Nat) : Int) := by have := HL.out; rw [IntKind.wrap_i64]; omega
      have HW := Kp.mk hw64
      clear hR hmo hmt hbw hBW
      go_wp2_with fail
      go_ret
      have HEQ : Ending.returned (.int .i64 ((i - L9 : Nat) : Int)) = Ending.returned (.int .i64 ((its.length - (its.filter (fun x => !loosP mk x.r)).length : Nat) : Int)) := by rw [← HE2.out, ← HL9.out, ← HN.out]
      have hS1 := HS.out.1
      rw [HE2.out] at hS1
      first | exact ⟨HEQ, .slice A9 L9 c9, hS1, HS.out.2.1, HS.out.2.2⟩ | exact ⟨.slice A9 L9 c9, HEQ, hS1, HS.out.2.1, HS.out.2.2⟩
theorem sameR_self (r : RuleV) : sameR r r = true := (sameR_iff r r).2 rfl
set_option maxRecDepth 100000 in
set_option maxHeartbeats 8000000 in
theorem mSame {v2 : Value} {its2 : List It} (h1 : RowS w v its) (h2 : RowS w v2 its2) (o1 : ∀ y ∈ its, Ob w y) (o2 : ∀ y ∈ its2, Ob w y) (he : rls its = rls its2) : Calls Try.prog 66 #[v, v2] w fun e w' => e = .returned (.bool true) ∧ Below w.heap.size w w' := by
  have hln : its2.length = its.length := by rw [← rls_len, ← he, rls_len]
  have H1 := Kp.mk (fun W (hb : Below w.heap.size w W) => h1.below hb)
  have H2 := Kp.mk (fun W (hb : Below w.heap.size w W) => h2.below hb)
  have HO1 := Kp.mk (fun W (hb : Below w.heap.size w W) y (hy : y ∈ its) => (o1 y hy).below hb)
  have HO2 := Kp.mk (fun W (hb : Below w.heap.size w W) y (hy : y ∈ its2) => (o2 y hy).below hb)
  have HE := Kp.mk he
  obtain ⟨A1, c1, rfl, _, _, hm1, _⟩ := h1.form
  obtain ⟨A2, c2, rfl, _, _, hm2, _⟩ := h2.form
  obtain ⟨n, hn⟩ : ∃ n, n = its.length := ⟨_, rfl⟩
  have hmax : (n : Int) ≤ 9223372036854775807 := by
    obtain ⟨_, _, e, _, h3, h4, _⟩ := h1.form
    unfold maxLen at h4
    omega
  have HN := Kp.mk hn
  have HN2 := Kp.mk (hn.trans hln.symm)
  rw [hln, ← hn] at H2 ⊢
  rw [← hn] at H1
  have hb0 := Below.refl w.heap.size w
  have hne : ((n : Int) != n) = false := by simp
  clear h1 h2 o1 o2 he hln hn hm1 hm2
  go_enter Try.func66, Try.ntmps66
  go_wp2_with fail
  go_loopw [5] (fun s5 wr => ∃ i : Nat, s5 = .int .i64 i ∧ i ≤ n ∧ Below w.heap.size w wr) (fun s5 _ => n - (intOf s5).toNat)
  case atStart => exact ⟨0, rfl, Nat.zero_le _, hb0⟩
  case round =>
    clear hb0
    obtain ⟨i, rfl, hi, hbw⟩ := hrel
    by_cases hlt : (i : Int) < n
    · obtain ⟨y, hy⟩ : ∃ y, its[i]? = some y := ⟨_, List.getElem?_eq_getElem (by have := HN.out; omega)⟩
      obtain ⟨z, hz⟩ : ∃ y, its2[i]? = some y := ⟨_, List.getElem?_eq_getElem (by have := HN2.out; omega)⟩
      have HYZ := Kp.mk (show y.r = z.r by
        have h1 := rls_at hy
        rw [HE.out, rls_at hz] at h1
        exact (Option.some.inj h1).symm)
      have hyo := HO1.out _ hbw y (List.mem_of_getElem? hy)
      have hzo := HO2.out _ hbw z (List.mem_of_getElem? hz)
      have r1 := H1.out _ hbw
      have r2 := H2.out _ hbw
      rcases r1 with ⟨_, e0⟩ | ⟨g1, sp1, e1, r1, _⟩
      · rw [e0] at hy; simp at hy
      rcases r2 with ⟨_, e0⟩ | ⟨g2, sp2, e2, r2, _⟩
      · rw [e0] at hz; simp at hz
      obtain ⟨rfl, -, -⟩ := Value.slice.inj e1
      obtain ⟨rfl, -, -⟩ := Value.slice.inj e2
      have hyz : (its ++ sp1)[i]? = some y := by rw [List.getElem?_append_left (List.getElem?_eq_some_iff.1 hy).1]; exact hy
      have hzz : (its2 ++ sp2)[i]? = some z := by rw [List.getElem?_append_left (List.getElem?_eq_some_iff.1 hz).1]; exact hz
      generalize its ++ sp1 = R1 at *
      generalize its2 ++ sp2 = R2 at *
      clear hy hz e1 e2
      have q0 := fl_get R1 i 0 y hyz (by omega)
      have q1 := fl_get R1 i 1 y hyz (by omega)
      have q2 := fl_get R1 i 2 y hyz (by omega)
      have q3 := fl_get R1 i 3 y hyz (by omega)
      have q4 := fl_get R1 i 4 y hyz (by omega)
      have q5 := fl_get R1 i 5 y hyz (by omega)
      have q6 := fl_get R1 i 6 y hyz (by omega)
      have q7 := fl_get R1 i 7 y hyz (by omega)
      have q8 := fl_get R1 i 8 y hyz (by omega)
      have q9 := fl_get R1 i 9 y hyz (by omega)
      have q10 := fl_get R1 i 10 y hyz (by omega)
      have q11 := fl_get R1 i 11 y hyz (by omega)
      have q12 := fl_get R1 i 12 y hyz (by omega)
      rw [Nat.add_zero] at q0
      have t0 := fl_get R2 i 0 z hzz (by omega)
      have t1 := fl_get R2 i 1 z hzz (by omega)
      have t2 := fl_get R2 i 2 z hzz (by omega)
      have t3 := fl_get R2 i 3 z hzz (by omega)
      have t4 := fl_get R2 i 4 z hzz (by omega)
      have t5 := fl_get R2 i 5 z hzz (by omega)
      have t6 := fl_get R2 i 6 z hzz (by omega)
      have t7 := fl_get R2 i 7 z hzz (by omega)
      have t8 := fl_get R2 i 8 z hzz (by omega)
      have t9 := fl_get R2 i 9 z hzz (by omega)
      have t10 := fl_get R2 i 10 z hzz (by omega)
      have t11 := fl_get R2 i 11 z hzz (by omega)
      have t12 := fl_get R2 i 12 z hzz (by omega)
      rw [Nat.add_zero] at t0
      go_upto_region 6 with fail
      have hd0 := (Below.refl wr.heap.size wr).drew
      replace hyo := hyo.below hd0
      replace hzo := hzo.below hd0
      have hS0 : (fun W => Rowb W g1 R1 ∧ Rowb W g2 R2) wr.drew := ⟨r1, r2⟩
      have hbd := hbw.drew
      refine wp_region_held_drew (S := fun W => Rowb W g1 R1 ∧ Rowb W g2 R2) (by kernel_rfl) hS0 (fun _ => ?_)
      clear r1 r2 hbw hd0
      generalize wr.drew = u0 at *
      refine takeD (i := 0) (v := .slice (some ⟨g1, 0, none⟩) n c1) (some 17) rfl rfl (by kernel_rfl) (by kernel_rfl) (by kernel_rfl) (fun _ _ _ h => h) (Or.inl ⟨by rfl, ?_⟩) hS0 ?_
      · rintro w' _
        go_simp
      try simp only [Act.put, List.setIfInBounds_toArray, List.set_cons_zero, List.set_cons_succ]
      refine takeD (i := 1) (v := .int .i64 i) (some 18) rfl rfl (by kernel_rfl) (by kernel_rfl) (by kernel_rfl) (fun _ _ _ h => h) (Or.inl ⟨by rfl, ?_⟩) hS0 ?_
      · rintro w' _
        go_simp
      try simp only [Act.put, List.setIfInBounds_toArray, List.set_cons_zero, List.set_cons_succ]
      refine takeD (i := 2) (v := .pointer (some ⟨g1, i * 13, none⟩)) (some 19) rfl rfl (by kernel_rfl) (by kernel_rfl) (by kernel_rfl) (fun _ _ _ h => h) (Or.inl ⟨by rfl, ?_⟩) hS0 ?_
      · rintro w' _
        go_simp
      try simp only [Act.put, List.setIfInBounds_toArray, List.set_cons_zero, List.set_cons_succ]
      refine takeD (i := 3) (v := .agg #[.int .i64 y.r.k, .int .i64 y.r.pr, .int .i64 y.r.to, .int .i64 y.r.po, .int .i64 y.r.x.v, .int .i64 y.r.x.m, .int .u8 y.r.x.b0, .int .u8 y.r.x.b1, .int .u8 y.r.x.b2, .int .u8 y.r.x.i0, .int .u8 y.r.x.i1, .int .u8 y.r.x.i2, .slice y.A y.r.os.length y.c]) (some 20) rfl rfl (by kernel_rfl) (by kernel_rfl) (by kernel_rfl) (fun _ _ _ h => h) (Or.inl ⟨by rfl, ?_⟩) hS0 ?_
      · rintro w' ⟨s0, _⟩
        have d0 := Vb.cell s0 (i * 13) (q0.trans rfl)
        have d1 := Vb.cell s0 (i * 13 + 1) (q1.trans rfl)
        have d2 := Vb.cell s0 (i * 13 + 2) (q2.trans rfl)
        have d3 := Vb.cell s0 (i * 13 + 3) (q3.trans rfl)
        have d4 := Vb.cell s0 (i * 13 + 4) (q4.trans rfl)
        have d5 := Vb.cell s0 (i * 13 + 5) (q5.trans rfl)
        have d6 := Vb.cell s0 (i * 13 + 6) (q6.trans rfl)
        have d7 := Vb.cell s0 (i * 13 + 7) (q7.trans rfl)
        have d8 := Vb.cell s0 (i * 13 + 8) (q8.trans rfl)
        have d9 := Vb.cell s0 (i * 13 + 9) (q9.trans rfl)
        have d10 := Vb.cell s0 (i * 13 + 10) (q10.trans rfl)
        have d11 := Vb.cell s0 (i * 13 + 11) (q11.trans rfl)
        have d12 := Vb.cell s0 (i * 13 + 12) (q12.trans rfl)
        go_simp
      try simp only [Act.put, List.setIfInBounds_toArray, List.set_cons_zero, List.set_cons_succ]
      refine takeD (i := 4) (v := .slice (some ⟨g2, 0, none⟩) n c2) (some 21) rfl rfl (by kernel_rfl) (by kernel_rfl) (by kernel_rfl) (fun _ _ _ h => h) (Or.inl ⟨by rfl, ?_⟩) hS0 ?_
      · rintro w' _
        go_simp
      try simp only [Act.put, List.setIfInBounds_toArray, List.set_cons_zero, List.set_cons_succ]
      refine takeD (i := 5) (v := .int .i64 i) (some 22) rfl rfl (by kernel_rfl) (by kernel_rfl) (by kernel_rfl) (fun _ _ _ h => h) (Or.inl ⟨by rfl, ?_⟩) hS0 ?_
      · rintro w' _
        go_simp
      try simp only [Act.put, List.setIfInBounds_toArray, List.set_cons_zero, List.set_cons_succ]
      refine takeD (i := 6) (v := .pointer (some ⟨g2, i * 13, none⟩)) (some 23) rfl rfl (by kernel_rfl) (by kernel_rfl) (by kernel_rfl) (fun _ _ _ h => h) (Or.inl ⟨by rfl, ?_⟩) hS0 ?_
      · rintro w' _
        go_simp
      try simp only [Act.put, List.setIfInBounds_toArray, List.set_cons_zero, List.set_cons_succ]
      refine takeD (i := 7) (v := .agg #[.int .i64 z.r.k, .int .i64 z.r.pr, .int .i64 z.r.to, .int .i64 z.r.po, .int .i64 z.r.x.v, .int .i64 z.r.x.m, .int .u8 z.r.x.b0, .int .u8 z.r.x.b1, .int .u8 z.r.x.b2, .int .u8 z.r.x.i0, .int .u8 z.r.x.i1, .int .u8 z.r.x.i2, .slice z.A z.r.os.length z.c]) (some 24) rfl rfl (by kernel_rfl) (by kernel_rfl) (by kernel_rfl) (fun _ _ _ h => h) (Or.inl ⟨by rfl, ?_⟩) hS0 ?_
      · rintro w' ⟨_, s0⟩
        have d0 := Vb.cell s0 (i * 13) (t0.trans rfl)
        have d1 := Vb.cell s0 (i * 13 + 1) (t1.trans rfl)
        have d2 := Vb.cell s0 (i * 13 + 2) (t2.trans rfl)
        have d3 := Vb.cell s0 (i * 13 + 3) (t3.trans rfl)
        have d4 := Vb.cell s0 (i * 13 + 4) (t4.trans rfl)
        have d5 := Vb.cell s0 (i * 13 + 5) (t5.trans rfl)
        have d6 := Vb.cell s0 (i * 13 + 6) (t6.trans rfl)
        have d7 := Vb.cell s0 (i * 13 + 7) (t7.trans rfl)
        have d8 := Vb.cell s0 (i * 13 + 8) (t8.trans rfl)
        have d9 := Vb.cell s0 (i * 13 + 9) (t9.trans rfl)
        have d10 := Vb.cell s0 (i * 13 + 10) (t10.trans rfl)
        have d11 := Vb.cell s0 (i * 13 + 11) (t11.trans rfl)
        have d12 := Vb.cell s0 (i * 13 + 12) (t12.trans rfl)
        go_simp
      try simp only [Act.put, List.setIfInBounds_toArray, List.set_cons_zero, List.set_cons_succ]
      refine wpAnyH_ready (rs := [8]) (by kernel_rfl) (by simp) ?_
      refine AllReadyH.cons rfl (fun K hK => ?_) AllReadyH.nil
      try rw [if_pos (by rfl)]
      go_simp
      go_at_call 65
      refine (refSame8_any y z hyo hzo).mono ?_
      rintro e u1 ⟨rfl, hb1⟩
      rw [show sameR y.r z.r = true by rw [HYZ.out]; exact sameR_self _]
      have hS1 : (fun W => Rowb W g1 R1 ∧ Rowb W g2 R2) u1 := ⟨Vb.below hS0.1 hb1 (Vb.lt hS0.1), Vb.below hS0.2 hb1 (Vb.lt hS0.2)⟩
      have hbe := hbd.trans (hb1.mono hbd.size)
      refine hK.out _ _ hS1 (fun _ => ?_)
      clear hK K hb1 hbd hS0
      try simp only [Act.put, List.setIfInBounds_toArray, List.set_cons_zero, List.set_cons_succ]
      refine takeD (i := 9) (v := .bool false) (some 26) rfl rfl (by kernel_rfl) (by kernel_rfl) (by kernel_rfl) (fun _ _ _ h => h) (Or.inl ⟨by rfl, ?_⟩) hS1 ?_
      · rintro w' _
        go_simp
      try simp only [Act.put, List.setIfInBounds_toArray, List.set_cons_zero, List.set_cons_succ]
      refine wpAnyH_done (by kernel_rfl) ?_ _
      clear hS1 hyo hzo q0 q1 q2 q3 q4 q5 q6 q7 q8 q9 q10 q11 q12 t0 t1 t2 t3 t4 t5 t6 t7 t8 t9 t10 t11 t12
      go_wp2_with fail
      go_roundw
      case rel => exact ⟨i + 1, by go_num, by omega, hbe⟩
      case measure => simp [intOf]; omega
    · obtain rfl : i = n := by omega
      go_wp2_with fail
      go_ret
      exact ⟨rfl, hbw⟩
end
end Go.Proofs.Ytcolklkjaifplaa.Oct
