import Derived.Test.YtnoflfbcgbhipaaGreatOrdH
import Derived.Test.YtnoflfbcgbhipaaGreatPrbG
import Derived.Test.YtnoflfbcgbhipaaGreatOrdL
set_option linter.unusedSimpArgs false
set_option linter.unusedVariables false
set_option maxRecDepth 100000
set_option maxHeartbeats 1600000
namespace Go.Proofs.YtnoflfbcgbhipaaGreat.Oct
open Go.RowKit
def ocl (o : OrdV) (S : Value) : List Value := [.int .i64 o.k, .int .i64 o.n, .int .i64 o.m, .int .i64 o.r.k, .int .i64 o.r.pr, .int .i64 o.r.to, .int .i64 o.r.po, .int .i64 o.r.x.v, .int .i64 o.r.x.m, .int .u8 o.r.x.b0, .int .u8 o.r.x.b1, .int .u8 o.r.x.b2, .int .u8 o.r.x.i0, .int .u8 o.r.x.i1, .int .u8 o.r.x.i2, S, .int .i64 o.f, .int .i64 o.p, .int .i64 o.t, .int .i64 o.q, .int .i64 o.z]
theorem Vb.ord {T : TypeId} {w : World} {g : Nat} {o : OrdV} {S : Value} (h : Vb T w g (ocl o S)) : w.cell? ⟨g, 0, none⟩ = some (.int .i64 o.k) ∧ w.cell? ⟨g, 1, none⟩ = some (.int .i64 o.n) ∧ w.cell? ⟨g, 2, none⟩ = some (.int .i64 o.m) ∧ w.cell? ⟨g, 3, none⟩ = some (.int .i64 o.r.k) ∧ w.cell? ⟨g, 4, none⟩ = some (.int .i64 o.r.pr) ∧ w.cell? ⟨g, 5, none⟩ = some (.int .i64 o.r.to) ∧ w.cell? ⟨g, 6, none⟩ = some (.int .i64 o.r.po) ∧ w.cell? ⟨g, 7, none⟩ = some (.int .i64 o.r.x.v) ∧ w.cell? ⟨g, 8, none⟩ = some (.int .i64 o.r.x.m) ∧ w.cell? ⟨g, 9, none⟩ = some (.int .u8 o.r.x.b0) ∧ w.cell? ⟨g, 10, none⟩ = some (.int .u8 o.r.x.b1) ∧ w.cell? ⟨g, 11, none⟩ = some (.int .u8 o.r.x.b2) ∧ w.cell? ⟨g, 12, none⟩ = some (.int .u8 o.r.x.i0) ∧ w.cell? ⟨g, 13, none⟩ = some (.int .u8 o.r.x.i1) ∧ w.cell? ⟨g, 14, none⟩ = some (.int .u8 o.r.x.i2) ∧ w.cell? ⟨g, 15, none⟩ = some (S) ∧ w.cell? ⟨g, 16, none⟩ = some (.int .i64 o.f) ∧ w.cell? ⟨g, 17, none⟩ = some (.int .i64 o.p) ∧ w.cell? ⟨g, 18, none⟩ = some (.int .i64 o.t) ∧ w.cell? ⟨g, 19, none⟩ = some (.int .i64 o.q) ∧ w.cell? ⟨g, 20, none⟩ = some (.int .i64 o.z) := h.c21
def numAt (o : OrdV) (i : Nat) : Int := if i = 1 then o.n else o.m
def linkB (f p t q z : Int) : Bool := (checkQ f p t q z == 0) && (t != 0)
def mayO (o : OrdV) : Bool :=
 if o.k = 2 ∨ o.k = 3 then checkR o.r == 0 else if o.k = 8 then linkB o.f o.p o.t o.q o.z else (numsOf o.k).all fun u => inB (numAt o u.at_) u.lo u.hi
def bareB (o : OrdV) : Bool := (o.n == 0) && ((o.m == 0) && (noneBo o.r && eqQB o.f o.p o.t o.q o.z 0 0 0 0 0))
theorem isLink_any (f p t q z : Int) (w : World) : Calls Tryz.prog 229 #[.agg #[.int .i64 f, .int .i64 p, .int .i64 t, .int .i64 q, .int .i64 z]] w fun e w' => e = .returned (.bool (linkB f p t q z)) ∧ Below w.heap.size w w' := by
 by_cases c0 : (checkQ f p t q z == 0) = true
 rotate_left
 ·have c0' : (checkQ f p t q z == 0) = false := by simpa using c0
  clear c0
  have hp := Kp.mk (show linkB f p t q z = false by unfold linkB; rw [c0']; rfl)
  go_enter Tryz.func229, Tryz.ntmps229
  go_wp2_with fail
  refine (check_any f p t q z _).mono ?_
  rintro e w1 ⟨rfl, hb1⟩
  have hv := (Vb.new 49 w [.int .i64 f, .int .i64 p, .int .i64 t, .int .i64 q, .int .i64 z]).below hb1 (by simp)
  obtain ⟨d0, d1, d2, d3, d4⟩ := hv.c5
  have hb0 : Below w.heap.size w w1 := (below_alloc w (.cells #[.int .i64 f, .int .i64 p, .int .i64 t, .int .i64 q, .int .i64 z] 49)).trans (hb1.mono (by simp))
  clear hv hb1
  go_wp2_with fail
  rw [hp.out]
  go_ret
  exact ⟨rfl, hb0⟩
 by_cases c1 : (t != 0) = true
 rotate_left
 ·have c1' : (t != 0) = false := by simpa using c1
  clear c1
  have hp := Kp.mk (show linkB f p t q z = false by unfold linkB; rw [c0, c1']; rfl)
  go_enter Tryz.func229, Tryz.ntmps229
  go_wp2_with fail
  refine (check_any f p t q z _).mono ?_
  rintro e w1 ⟨rfl, hb1⟩
  have hv := (Vb.new 49 w [.int .i64 f, .int .i64 p, .int .i64 t, .int .i64 q, .int .i64 z]).below hb1 (by simp)
  obtain ⟨d0, d1, d2, d3, d4⟩ := hv.c5
  have hb0 : Below w.heap.size w w1 := (below_alloc w (.cells #[.int .i64 f, .int .i64 p, .int .i64 t, .int .i64 q, .int .i64 z] 49)).trans (hb1.mono (by simp))
  clear hv hb1
  go_wp2_with fail
  rw [hp.out]
  go_ret
  exact ⟨rfl, hb0⟩
 have hp := Kp.mk (show linkB f p t q z = true by unfold linkB; rw [c0, c1]; rfl)
 go_enter Tryz.func229, Tryz.ntmps229
 go_wp2_with fail
 refine (check_any f p t q z _).mono ?_
 rintro e w1 ⟨rfl, hb1⟩
 have hv := (Vb.new 49 w [.int .i64 f, .int .i64 p, .int .i64 t, .int .i64 q, .int .i64 z]).below hb1 (by simp)
 obtain ⟨d0, d1, d2, d3, d4⟩ := hv.c5
 have hb0 : Below w.heap.size w w1 := (below_alloc w (.cells #[.int .i64 f, .int .i64 p, .int .i64 t, .int .i64 q, .int .i64 z] 49)).trans (hb1.mono (by simp))
 clear hv hb1
 go_wp2_with fail
 rw [hp.out]
 go_ret
 exact ⟨rfl, hb0⟩
theorem inOrd_same (n a b : Int) (w : World) : Calls Tryz.prog 227 #[.int .i64 n, .int .i64 a, .int .i64 b] w fun e w' => e = .returned (.bool (inB n a b)) ∧ w' = w := (inOrd_any n a b w).mono (fun _ _ ⟨h1, h2⟩ => ⟨h1, h2.symm⟩)
theorem mb_none {w : World} (A : Option Addr) : Calls Tryz.prog 185 #[.agg #[.slice A 0 0, .pointer none, .pointer none]] w fun e w' => e = .returned (.bool (true)) ∧ Below w.heap.size w w' := by
 go_enter Tryz.func185, Tryz.ntmps185
 go_wp2_with fail
 refine wp_loop_rounds (0 + 1) ?_
 rw [rounds_succ]
 go_wp2_with fail
 go_ret
 exact ⟨rfl, below_alloc w _⟩
theorem mb_rule {w : World} {B g n c : Nat} {S : Option Addr} (A : Option Addr) (r : RuleV) (h : Ro w B S n c r.os) (hB : B ≤ w.heap.size) (hg : g < w.heap.size) (hx : w.cell? ⟨g, 3, none⟩ = some (.int .i64 r.k) ∧ w.cell? ⟨g, 4, none⟩ = some (.int .i64 r.pr) ∧ w.cell? ⟨g, 5, none⟩ = some (.int .i64 r.to) ∧ w.cell? ⟨g, 6, none⟩ = some (.int .i64 r.po) ∧ w.cell? ⟨g, 7, none⟩ = some (.int .i64 r.x.v) ∧ w.cell? ⟨g, 8, none⟩ = some (.int .i64 r.x.m) ∧ w.cell? ⟨g, 9, none⟩ = some (.int .u8 r.x.b0) ∧ w.cell? ⟨g, 10, none⟩ = some (.int .u8 r.x.b1) ∧ w.cell? ⟨g, 11, none⟩ = some (.int .u8 r.x.b2) ∧ w.cell? ⟨g, 12, none⟩ = some (.int .u8 r.x.i0) ∧ w.cell? ⟨g, 13, none⟩ = some (.int .u8 r.x.i1) ∧ w.cell? ⟨g, 14, none⟩ = some (.int .u8 r.x.i2) ∧ w.cell? ⟨g, 15, none⟩ = some (.slice S n c)) : Calls Tryz.prog 185 #[.agg #[.slice A 0 0, .pointer (some ⟨g, 3, none⟩), .pointer none]] w fun e w' => e = .returned (.bool (checkR r == 0)) ∧ Below w.heap.size w w' := by
 have hb0 := below_alloc w (.cells #[.slice A 0 0, .pointer (some ⟨g, 3, none⟩), .pointer none] 211)
 have HC := Kp.mk (ruleO_any (w := w.alloc (.cells #[.slice A 0 0, .pointer (some ⟨g, 3, none⟩), .pointer none] 211)) r (h.below' hb0 hB) (by simp; omega))
 obtain ⟨d0, d1, d2, d3, d4, d5, d6, d7, d8, d9, d10, d11, d12⟩ := hx
 have e0 := cell_below d0 hg hb0
 have e1 := cell_below d1 hg hb0
 have e2 := cell_below d2 hg hb0
 have e3 := cell_below d3 hg hb0
 have e4 := cell_below d4 hg hb0
 have e5 := cell_below d5 hg hb0
 have e6 := cell_below d6 hg hb0
 have e7 := cell_below d7 hg hb0
 have e8 := cell_below d8 hg hb0
 have e9 := cell_below d9 hg hb0
 have e10 := cell_below d10 hg hb0
 have e11 := cell_below d11 hg hb0
 have e12 := cell_below d12 hg hb0
 clear hb0 d0 d1 d2 d3 d4 d5 d6 d7 d8 d9 d10 d11 d12
 by_cases c0 : (checkR r == 0) = true
 ·have n0 : (checkR r != 0) = false := by rw [bne, c0]; rfl
  have hp := Kp.mk c0
  clear c0
  go_enter Tryz.func185, Tryz.ntmps185
  go_wp2_with fail
  refine wp_loop_rounds (0 + 1) ?_
  rw [rounds_succ]
  go_wp2_with fail
  refine HC.out.mono ?_
  rintro e w1 ⟨rfl, hb1⟩
  have hv := (Vb.new 211 w [.slice A 0 0, .pointer (some ⟨g, 3, none⟩), .pointer none]).below hb1 (by simp)
  obtain ⟨f0, f1, f2⟩ := hv.c3
  have hb2 : Below w.heap.size w w1 := (below_alloc w (.cells #[.slice A 0 0, .pointer (some ⟨g, 3, none⟩), .pointer none] 211)).trans (hb1.mono (by simp))
  clear hv hb1 e0 e1 e2 e3 e4 e5 e6 e7 e8 e9 e10 e11 e12
  go_wp2_with fail
  rw [hp.out]
  go_ret
  exact ⟨rfl, hb2⟩
 ·have c0' : (checkR r == 0) = false := by simpa using c0
  clear c0
  have n0 : (checkR r != 0) = true := by rw [bne, c0']; rfl
  have hp := Kp.mk c0'
  clear c0'
  go_enter Tryz.func185, Tryz.ntmps185
  go_wp2_with fail
  refine wp_loop_rounds (0 + 1) ?_
  rw [rounds_succ]
  go_wp2_with fail
  refine HC.out.mono ?_
  rintro e w1 ⟨rfl, hb1⟩
  have hv := (Vb.new 211 w [.slice A 0 0, .pointer (some ⟨g, 3, none⟩), .pointer none]).below hb1 (by simp)
  obtain ⟨f0, f1, f2⟩ := hv.c3
  have hb2 : Below w.heap.size w w1 := (below_alloc w (.cells #[.slice A 0 0, .pointer (some ⟨g, 3, none⟩), .pointer none] 211)).trans (hb1.mono (by simp))
  clear hv hb1 e0 e1 e2 e3 e4 e5 e6 e7 e8 e9 e10 e11 e12
  go_wp2_with fail
  rw [hp.out]
  go_ret
  exact ⟨rfl, hb2⟩
theorem mb_link {w : World} {g : Nat} (A : Option Addr) (f p t q z : Int) (hg : g < w.heap.size) (hx : w.cell? ⟨g, 16, none⟩ = some (.int .i64 f) ∧ w.cell? ⟨g, 17, none⟩ = some (.int .i64 p) ∧ w.cell? ⟨g, 18, none⟩ = some (.int .i64 t) ∧ w.cell? ⟨g, 19, none⟩ = some (.int .i64 q) ∧ w.cell? ⟨g, 20, none⟩ = some (.int .i64 z)) : Calls Tryz.prog 185 #[.agg #[.slice A 0 0, .pointer none, .pointer (some ⟨g, 16, none⟩)]] w fun e w' => e = .returned (.bool (linkB f p t q z)) ∧ Below w.heap.size w w' := by
 have hb0 := below_alloc w (.cells #[.slice A 0 0, .pointer none, .pointer (some ⟨g, 16, none⟩)] 211)
 obtain ⟨d0, d1, d2, d3, d4⟩ := hx
 have e0 := cell_below d0 hg hb0
 have e1 := cell_below d1 hg hb0
 have e2 := cell_below d2 hg hb0
 have e3 := cell_below d3 hg hb0
 have e4 := cell_below d4 hg hb0
 clear d0 d1 d2 d3 d4
 go_enter Tryz.func185, Tryz.ntmps185
 go_wp2_with fail
 refine wp_loop_rounds (0 + 1) ?_
 rw [rounds_succ]
 go_wp2_with fail
 refine (isLink_any f p t q z _).mono ?_
 rintro e w1 ⟨rfl, hb1⟩
 go_wp2_with fail
 go_ret
 exact ⟨rfl, hb0.trans (hb1.mono (by simp))⟩
theorem mb_1 {w : World} {lo g m : Nat} {A : Option Addr} {u : NumV} (x : Int) (hR : Rn w lo g A m [u]) (hg : g < w.heap.size) (hu : w.cell? ⟨g, u.at_, none⟩ = some (.int .i64 x)) : Calls Tryz.prog 185 #[.agg #[.slice A m m, .pointer none, .pointer none]] w fun e w' => e = .returned (.bool (inB x u.lo u.hi)) ∧ Below w.heap.size w w' := by
 obtain ⟨hl, _, hc⟩ := hR
 simp at hl
 subst hl
 obtain ⟨b, rfl, _, hbw, hc⟩ := hc (by omega)
 obtain ⟨a00, a01, a02, a03⟩ := hc 0 u rfl
 simp only [Nat.zero_mul, Nat.zero_add, Nat.one_mul, Nat.reduceAdd] at a00 a01 a02 a03
 clear hc
 by_cases c0 : inB x u.lo u.hi = true
 rotate_left
 ·have c0' : inB x u.lo u.hi = false := by simpa using c0
  clear c0
  have hp := Kp.mk c0'
  have hb1 : Below (w.heap.size + 1) (w.alloc (.cells #[.slice (some ⟨b, 0, none⟩) 1 1, .pointer none, .pointer none] 211)) (w.alloc (.cells #[.slice (some ⟨b, 0, none⟩) 1 1, .pointer none, .pointer none] 211)) := Below.refl _ _
  have hbw0 := below_alloc w (.cells #[.slice (some ⟨b, 0, none⟩) 1 1, .pointer none, .pointer none] 211)
  have hvb := Vb.new 211 w [.slice (some ⟨b, 0, none⟩) 1 1, .pointer none, .pointer none]
  have FU : Kp (∀ w', Below (w.heap.size + 1) (w.alloc (.cells #[.slice (some ⟨b, 0, none⟩) 1 1, .pointer none, .pointer none] 211)) w' → w'.cell? ⟨w.heap.size, 1, none⟩ = some (.pointer none) ∧ w'.cell? ⟨w.heap.size, 2, none⟩ = some (.pointer none) ∧ w'.cell? ⟨g, u.at_, none⟩ = some (.int .i64 x) ∧ w'.cell? ⟨b, 0, none⟩ = some (.pointer (some ⟨g, u.at_, none⟩)) ∧ w'.cell? ⟨b, 1, none⟩ = some (.int .i64 u.s) ∧ w'.cell? ⟨b, 2, none⟩ = some (.int .i64 u.lo) ∧ w'.cell? ⟨b, 3, none⟩ = some (.int .i64 u.hi)) := Kp.mk (fun w' hb0 => by have hb := hbw0.trans (hb0.mono (by omega)); have hvv := hvb.below hb0 (by omega); exact ⟨hvv.cell 1 rfl, hvv.cell 2 rfl, cell_below hu hg hb, cell_below a00 hbw hb, cell_below a01 hbw hb, cell_below a02 hbw hb, cell_below a03 hbw hb⟩)
  clear hu a00 a01 a02 a03
  go_enter Tryz.func185, Tryz.ntmps185
  go_wp2_with fail
  refine wp_loop_rounds (0 + 1) ?_
  obtain ⟨f1, f2, ku, b00, b01, b02, b03⟩ := FU.out _ hb1
  rw [rounds_succ]
  have hb2 := hb1.trans ((below_alloc (w.alloc (.cells #[.slice (some ⟨b, 0, none⟩) 1 1, .pointer none, .pointer none] 211)) (.cells #[.pointer (some ⟨g, u.at_, none⟩), .int .i64 u.s, .int .i64 u.lo, .int .i64 u.hi] 245)).mono (by have := hb1.size; first | omega | (simp at this ⊢; done) | (simp at this ⊢; omega)))
  obtain ⟨r1, r2, qu, m00, m01, m02, m03⟩ := FU.out _ hb2
  go_wp2_with fail
  go_quiet ((go_at_call 227; exact Calls.quiet_of_same (inOrd_same _ _ _ _)))
  have hq0 := below_drewN hb2 nq
  generalize ((w.alloc (.cells #[.slice (some ⟨b, 0, none⟩) 1 1, .pointer none, .pointer none] 211)).alloc (.cells #[.pointer (some ⟨g, u.at_, none⟩), .int .i64 u.s, .int .i64 u.lo, .int .i64 u.hi] 245)).drewN nq = wq0 at *
  go_wp2_with fail
  clear f1 f2 ku b00 b01 b02 b03 r1 r2 qu m00 m01 m02 m03
  rw [hp.out]
  go_ret
  exact ⟨rfl, hbw0.trans (hq0.mono (by omega))⟩
 have hp := Kp.mk c0
 have hb1 : Below (w.heap.size + 1) (w.alloc (.cells #[.slice (some ⟨b, 0, none⟩) 1 1, .pointer none, .pointer none] 211)) (w.alloc (.cells #[.slice (some ⟨b, 0, none⟩) 1 1, .pointer none, .pointer none] 211)) := Below.refl _ _
 have hbw0 := below_alloc w (.cells #[.slice (some ⟨b, 0, none⟩) 1 1, .pointer none, .pointer none] 211)
 have hvb := Vb.new 211 w [.slice (some ⟨b, 0, none⟩) 1 1, .pointer none, .pointer none]
 have FU : Kp (∀ w', Below (w.heap.size + 1) (w.alloc (.cells #[.slice (some ⟨b, 0, none⟩) 1 1, .pointer none, .pointer none] 211)) w' → w'.cell? ⟨w.heap.size, 1, none⟩ = some (.pointer none) ∧ w'.cell? ⟨w.heap.size, 2, none⟩ = some (.pointer none) ∧ w'.cell? ⟨g, u.at_, none⟩ = some (.int .i64 x) ∧ w'.cell? ⟨b, 0, none⟩ = some (.pointer (some ⟨g, u.at_, none⟩)) ∧ w'.cell? ⟨b, 1, none⟩ = some (.int .i64 u.s) ∧ w'.cell? ⟨b, 2, none⟩ = some (.int .i64 u.lo) ∧ w'.cell? ⟨b, 3, none⟩ = some (.int .i64 u.hi)) := Kp.mk (fun w' hb0 => by have hb := hbw0.trans (hb0.mono (by omega)); have hvv := hvb.below hb0 (by omega); exact ⟨hvv.cell 1 rfl, hvv.cell 2 rfl, cell_below hu hg hb, cell_below a00 hbw hb, cell_below a01 hbw hb, cell_below a02 hbw hb, cell_below a03 hbw hb⟩)
 clear hu a00 a01 a02 a03
 go_enter Tryz.func185, Tryz.ntmps185
 go_wp2_with fail
 refine wp_loop_rounds (1 + 1) ?_
 obtain ⟨f1, f2, ku, b00, b01, b02, b03⟩ := FU.out _ hb1
 rw [rounds_succ]
 have hb2 := hb1.trans ((below_alloc (w.alloc (.cells #[.slice (some ⟨b, 0, none⟩) 1 1, .pointer none, .pointer none] 211)) (.cells #[.pointer (some ⟨g, u.at_, none⟩), .int .i64 u.s, .int .i64 u.lo, .int .i64 u.hi] 245)).mono (by have := hb1.size; first | omega | (simp at this ⊢; done) | (simp at this ⊢; omega)))
 obtain ⟨r1, r2, qu, m00, m01, m02, m03⟩ := FU.out _ hb2
 go_wp2_with fail
 go_quiet ((go_at_call 227; exact Calls.quiet_of_same (inOrd_same _ _ _ _)))
 have hq0 := below_drewN hb2 nq
 generalize ((w.alloc (.cells #[.slice (some ⟨b, 0, none⟩) 1 1, .pointer none, .pointer none] 211)).alloc (.cells #[.pointer (some ⟨g, u.at_, none⟩), .int .i64 u.s, .int .i64 u.lo, .int .i64 u.hi] 245)).drewN nq = wq0 at *
 go_wp2_with fail
 clear f1 f2 ku b00 b01 b02 b03 r1 r2 qu m00 m01 m02 m03
 obtain ⟨f1, f2, ku, b00, b01, b02, b03⟩ := FU.out _ hq0
 rw [rounds_succ]
 go_wp2_with fail
 rw [hp.out]
 go_ret
 exact ⟨rfl, hbw0.trans (hq0.mono (by omega))⟩
theorem mb_2 {w : World} {lo g m : Nat} {A : Option Addr} {u v : NumV} (x y : Int) (hR : Rn w lo g A m [u, v]) (hg : g < w.heap.size) (hu : w.cell? ⟨g, u.at_, none⟩ = some (.int .i64 x)) (hv : w.cell? ⟨g, v.at_, none⟩ = some (.int .i64 y)) : Calls Tryz.prog 185 #[.agg #[.slice A m m, .pointer none, .pointer none]] w fun e w' => e = .returned (.bool (inB x u.lo u.hi && inB y v.lo v.hi)) ∧ Below w.heap.size w w' := by
 obtain ⟨hl, _, hc⟩ := hR
 simp at hl
 subst hl
 obtain ⟨b, rfl, _, hbw, hc⟩ := hc (by omega)
 obtain ⟨a00, a01, a02, a03⟩ := hc 0 u rfl
 simp only [Nat.zero_mul, Nat.zero_add, Nat.one_mul, Nat.reduceAdd] at a00 a01 a02 a03
 obtain ⟨a10, a11, a12, a13⟩ := hc 1 v rfl
 simp only [Nat.zero_mul, Nat.zero_add, Nat.one_mul, Nat.reduceAdd] at a10 a11 a12 a13
 clear hc
 by_cases c0 : inB x u.lo u.hi = true
 rotate_left
 ·have c0' : inB x u.lo u.hi = false := by simpa using c0
  clear c0
  have hp := Kp.mk (show (inB x u.lo u.hi && inB y v.lo v.hi) = false by rw [c0']; rfl)
  have hb1 : Below (w.heap.size + 1) (w.alloc (.cells #[.slice (some ⟨b, 0, none⟩) 2 2, .pointer none, .pointer none] 211)) (w.alloc (.cells #[.slice (some ⟨b, 0, none⟩) 2 2, .pointer none, .pointer none] 211)) := Below.refl _ _
  have hbw0 := below_alloc w (.cells #[.slice (some ⟨b, 0, none⟩) 2 2, .pointer none, .pointer none] 211)
  have hvb := Vb.new 211 w [.slice (some ⟨b, 0, none⟩) 2 2, .pointer none, .pointer none]
  have FU : Kp (∀ w', Below (w.heap.size + 1) (w.alloc (.cells #[.slice (some ⟨b, 0, none⟩) 2 2, .pointer none, .pointer none] 211)) w' → w'.cell? ⟨w.heap.size, 1, none⟩ = some (.pointer none) ∧ w'.cell? ⟨w.heap.size, 2, none⟩ = some (.pointer none) ∧ w'.cell? ⟨g, u.at_, none⟩ = some (.int .i64 x) ∧ w'.cell? ⟨g, v.at_, none⟩ = some (.int .i64 y) ∧ w'.cell? ⟨b, 0, none⟩ = some (.pointer (some ⟨g, u.at_, none⟩)) ∧ w'.cell? ⟨b, 1, none⟩ = some (.int .i64 u.s) ∧ w'.cell? ⟨b, 2, none⟩ = some (.int .i64 u.lo) ∧ w'.cell? ⟨b, 3, none⟩ = some (.int .i64 u.hi) ∧ w'.cell? ⟨b, 4, none⟩ = some (.pointer (some ⟨g, v.at_, none⟩)) ∧ w'.cell? ⟨b, 5, none⟩ = some (.int .i64 v.s) ∧ w'.cell? ⟨b, 6, none⟩ = some (.int .i64 v.lo) ∧ w'.cell? ⟨b, 7, none⟩ = some (.int .i64 v.hi)) := Kp.mk (fun w' hb0 => by have hb := hbw0.trans (hb0.mono (by omega)); have hvv := hvb.below hb0 (by omega); exact ⟨hvv.cell 1 rfl, hvv.cell 2 rfl, cell_below hu hg hb, cell_below hv hg hb, cell_below a00 hbw hb, cell_below a01 hbw hb, cell_below a02 hbw hb, cell_below a03 hbw hb, cell_below a10 hbw hb, cell_below a11 hbw hb, cell_below a12 hbw hb, cell_below a13 hbw hb⟩)
  clear hu hv a00 a01 a02 a03 a10 a11 a12 a13
  go_enter Tryz.func185, Tryz.ntmps185
  go_wp2_with fail
  refine wp_loop_rounds (0 + 1) ?_
  obtain ⟨f1, f2, ku, kv, b00, b01, b02, b03, b10, b11, b12, b13⟩ := FU.out _ hb1
  rw [rounds_succ]
  have hb2 := hb1.trans ((below_alloc (w.alloc (.cells #[.slice (some ⟨b, 0, none⟩) 2 2, .pointer none, .pointer none] 211)) (.cells #[.pointer (some ⟨g, u.at_, none⟩), .int .i64 u.s, .int .i64 u.lo, .int .i64 u.hi] 245)).mono (by have := hb1.size; first | omega | (simp at this ⊢; done) | (simp at this ⊢; omega)))
  obtain ⟨r1, r2, qu, qv, m00, m01, m02, m03, m10, m11, m12, m13⟩ := FU.out _ hb2
  go_wp2_with fail
  go_quiet ((go_at_call 227; exact Calls.quiet_of_same (inOrd_same _ _ _ _)))
  have hq0 := below_drewN hb2 nq
  generalize ((w.alloc (.cells #[.slice (some ⟨b, 0, none⟩) 2 2, .pointer none, .pointer none] 211)).alloc (.cells #[.pointer (some ⟨g, u.at_, none⟩), .int .i64 u.s, .int .i64 u.lo, .int .i64 u.hi] 245)).drewN nq = wq0 at *
  go_wp2_with fail
  clear f1 f2 ku kv b00 b01 b02 b03 b10 b11 b12 b13 r1 r2 qu qv m00 m01 m02 m03 m10 m11 m12 m13
  rw [hp.out]
  go_ret
  exact ⟨rfl, hbw0.trans (hq0.mono (by omega))⟩
 by_cases c1 : inB y v.lo v.hi = true
 rotate_left
 ·have c1' : inB y v.lo v.hi = false := by simpa using c1
  clear c1
  have hp := Kp.mk (show (inB x u.lo u.hi && inB y v.lo v.hi) = false by rw [c0, c1']; rfl)
  have hb1 : Below (w.heap.size + 1) (w.alloc (.cells #[.slice (some ⟨b, 0, none⟩) 2 2, .pointer none, .pointer none] 211)) (w.alloc (.cells #[.slice (some ⟨b, 0, none⟩) 2 2, .pointer none, .pointer none] 211)) := Below.refl _ _
  have hbw0 := below_alloc w (.cells #[.slice (some ⟨b, 0, none⟩) 2 2, .pointer none, .pointer none] 211)
  have hvb := Vb.new 211 w [.slice (some ⟨b, 0, none⟩) 2 2, .pointer none, .pointer none]
  have FU : Kp (∀ w', Below (w.heap.size + 1) (w.alloc (.cells #[.slice (some ⟨b, 0, none⟩) 2 2, .pointer none, .pointer none] 211)) w' → w'.cell? ⟨w.heap.size, 1, none⟩ = some (.pointer none) ∧ w'.cell? ⟨w.heap.size, 2, none⟩ = some (.pointer none) ∧ w'.cell? ⟨g, u.at_, none⟩ = some (.int .i64 x) ∧ w'.cell? ⟨g, v.at_, none⟩ = some (.int .i64 y) ∧ w'.cell? ⟨b, 0, none⟩ = some (.pointer (some ⟨g, u.at_, none⟩)) ∧ w'.cell? ⟨b, 1, none⟩ = some (.int .i64 u.s) ∧ w'.cell? ⟨b, 2, none⟩ = some (.int .i64 u.lo) ∧ w'.cell? ⟨b, 3, none⟩ = some (.int .i64 u.hi) ∧ w'.cell? ⟨b, 4, none⟩ = some (.pointer (some ⟨g, v.at_, none⟩)) ∧ w'.cell? ⟨b, 5, none⟩ = some (.int .i64 v.s) ∧ w'.cell? ⟨b, 6, none⟩ = some (.int .i64 v.lo) ∧ w'.cell? ⟨b, 7, none⟩ = some (.int .i64 v.hi)) := Kp.mk (fun w' hb0 => by have hb := hbw0.trans (hb0.mono (by omega)); have hvv := hvb.below hb0 (by omega); exact ⟨hvv.cell 1 rfl, hvv.cell 2 rfl, cell_below hu hg hb, cell_below hv hg hb, cell_below a00 hbw hb, cell_below a01 hbw hb, cell_below a02 hbw hb, cell_below a03 hbw hb, cell_below a10 hbw hb, cell_below a11 hbw hb, cell_below a12 hbw hb, cell_below a13 hbw hb⟩)
  clear hu hv a00 a01 a02 a03 a10 a11 a12 a13
  go_enter Tryz.func185, Tryz.ntmps185
  go_wp2_with fail
  refine wp_loop_rounds (1 + 1) ?_
  obtain ⟨f1, f2, ku, kv, b00, b01, b02, b03, b10, b11, b12, b13⟩ := FU.out _ hb1
  rw [rounds_succ]
  have hb2 := hb1.trans ((below_alloc (w.alloc (.cells #[.slice (some ⟨b, 0, none⟩) 2 2, .pointer none, .pointer none] 211)) (.cells #[.pointer (some ⟨g, u.at_, none⟩), .int .i64 u.s, .int .i64 u.lo, .int .i64 u.hi] 245)).mono (by have := hb1.size; first | omega | (simp at this ⊢; done) | (simp at this ⊢; omega)))
  obtain ⟨r1, r2, qu, qv, m00, m01, m02, m03, m10, m11, m12, m13⟩ := FU.out _ hb2
  go_wp2_with fail
  go_quiet ((go_at_call 227; exact Calls.quiet_of_same (inOrd_same _ _ _ _)))
  have hq0 := below_drewN hb2 nq
  generalize ((w.alloc (.cells #[.slice (some ⟨b, 0, none⟩) 2 2, .pointer none, .pointer none] 211)).alloc (.cells #[.pointer (some ⟨g, u.at_, none⟩), .int .i64 u.s, .int .i64 u.lo, .int .i64 u.hi] 245)).drewN nq = wq0 at *
  go_wp2_with fail
  clear f1 f2 ku kv b00 b01 b02 b03 b10 b11 b12 b13 r1 r2 qu qv m00 m01 m02 m03 m10 m11 m12 m13
  obtain ⟨f1, f2, ku, kv, b00, b01, b02, b03, b10, b11, b12, b13⟩ := FU.out _ hq0
  rw [rounds_succ]
  have hb3 := hq0.trans ((below_alloc wq0 (.cells #[.pointer (some ⟨g, v.at_, none⟩), .int .i64 v.s, .int .i64 v.lo, .int .i64 v.hi] 245)).mono (by have := hq0.size; first | omega | (simp at this ⊢; done) | (simp at this ⊢; omega)))
  obtain ⟨r1, r2, qu, qv, m00, m01, m02, m03, m10, m11, m12, m13⟩ := FU.out _ hb3
  go_wp2_with fail
  go_quiet ((go_at_call 227; exact Calls.quiet_of_same (inOrd_same _ _ _ _)))
  have hq1 := below_drewN hb3 nq
  generalize (wq0.alloc (.cells #[.pointer (some ⟨g, v.at_, none⟩), .int .i64 v.s, .int .i64 v.lo, .int .i64 v.hi] 245)).drewN nq = wq1 at *
  go_wp2_with fail
  clear f1 f2 ku kv b00 b01 b02 b03 b10 b11 b12 b13 r1 r2 qu qv m00 m01 m02 m03 m10 m11 m12 m13
  rw [hp.out]
  go_ret
  exact ⟨rfl, hbw0.trans (hq1.mono (by omega))⟩
 have hp := Kp.mk (show (inB x u.lo u.hi && inB y v.lo v.hi) = true by rw [c0, c1]; rfl)
 have hb1 : Below (w.heap.size + 1) (w.alloc (.cells #[.slice (some ⟨b, 0, none⟩) 2 2, .pointer none, .pointer none] 211)) (w.alloc (.cells #[.slice (some ⟨b, 0, none⟩) 2 2, .pointer none, .pointer none] 211)) := Below.refl _ _
 have hbw0 := below_alloc w (.cells #[.slice (some ⟨b, 0, none⟩) 2 2, .pointer none, .pointer none] 211)
 have hvb := Vb.new 211 w [.slice (some ⟨b, 0, none⟩) 2 2, .pointer none, .pointer none]
 have FU : Kp (∀ w', Below (w.heap.size + 1) (w.alloc (.cells #[.slice (some ⟨b, 0, none⟩) 2 2, .pointer none, .pointer none] 211)) w' → w'.cell? ⟨w.heap.size, 1, none⟩ = some (.pointer none) ∧ w'.cell? ⟨w.heap.size, 2, none⟩ = some (.pointer none) ∧ w'.cell? ⟨g, u.at_, none⟩ = some (.int .i64 x) ∧ w'.cell? ⟨g, v.at_, none⟩ = some (.int .i64 y) ∧ w'.cell? ⟨b, 0, none⟩ = some (.pointer (some ⟨g, u.at_, none⟩)) ∧ w'.cell? ⟨b, 1, none⟩ = some (.int .i64 u.s) ∧ w'.cell? ⟨b, 2, none⟩ = some (.int .i64 u.lo) ∧ w'.cell? ⟨b, 3, none⟩ = some (.int .i64 u.hi) ∧ w'.cell? ⟨b, 4, none⟩ = some (.pointer (some ⟨g, v.at_, none⟩)) ∧ w'.cell? ⟨b, 5, none⟩ = some (.int .i64 v.s) ∧ w'.cell? ⟨b, 6, none⟩ = some (.int .i64 v.lo) ∧ w'.cell? ⟨b, 7, none⟩ = some (.int .i64 v.hi)) := Kp.mk (fun w' hb0 => by have hb := hbw0.trans (hb0.mono (by omega)); have hvv := hvb.below hb0 (by omega); exact ⟨hvv.cell 1 rfl, hvv.cell 2 rfl, cell_below hu hg hb, cell_below hv hg hb, cell_below a00 hbw hb, cell_below a01 hbw hb, cell_below a02 hbw hb, cell_below a03 hbw hb, cell_below a10 hbw hb, cell_below a11 hbw hb, cell_below a12 hbw hb, cell_below a13 hbw hb⟩)
 clear hu hv a00 a01 a02 a03 a10 a11 a12 a13
 go_enter Tryz.func185, Tryz.ntmps185
 go_wp2_with fail
 refine wp_loop_rounds (2 + 1) ?_
 obtain ⟨f1, f2, ku, kv, b00, b01, b02, b03, b10, b11, b12, b13⟩ := FU.out _ hb1
 rw [rounds_succ]
 have hb2 := hb1.trans ((below_alloc (w.alloc (.cells #[.slice (some ⟨b, 0, none⟩) 2 2, .pointer none, .pointer none] 211)) (.cells #[.pointer (some ⟨g, u.at_, none⟩), .int .i64 u.s, .int .i64 u.lo, .int .i64 u.hi] 245)).mono (by have := hb1.size; first | omega | (simp at this ⊢; done) | (simp at this ⊢; omega)))
 obtain ⟨r1, r2, qu, qv, m00, m01, m02, m03, m10, m11, m12, m13⟩ := FU.out _ hb2
 go_wp2_with fail
 go_quiet ((go_at_call 227; exact Calls.quiet_of_same (inOrd_same _ _ _ _)))
 have hq0 := below_drewN hb2 nq
 generalize ((w.alloc (.cells #[.slice (some ⟨b, 0, none⟩) 2 2, .pointer none, .pointer none] 211)).alloc (.cells #[.pointer (some ⟨g, u.at_, none⟩), .int .i64 u.s, .int .i64 u.lo, .int .i64 u.hi] 245)).drewN nq = wq0 at *
 go_wp2_with fail
 clear f1 f2 ku kv b00 b01 b02 b03 b10 b11 b12 b13 r1 r2 qu qv m00 m01 m02 m03 m10 m11 m12 m13
 obtain ⟨f1, f2, ku, kv, b00, b01, b02, b03, b10, b11, b12, b13⟩ := FU.out _ hq0
 rw [rounds_succ]
 have hb3 := hq0.trans ((below_alloc wq0 (.cells #[.pointer (some ⟨g, v.at_, none⟩), .int .i64 v.s, .int .i64 v.lo, .int .i64 v.hi] 245)).mono (by have := hq0.size; first | omega | (simp at this ⊢; done) | (simp at this ⊢; omega)))
 obtain ⟨r1, r2, qu, qv, m00, m01, m02, m03, m10, m11, m12, m13⟩ := FU.out _ hb3
 go_wp2_with fail
 go_quiet ((go_at_call 227; exact Calls.quiet_of_same (inOrd_same _ _ _ _)))
 have hq1 := below_drewN hb3 nq
 generalize (wq0.alloc (.cells #[.pointer (some ⟨g, v.at_, none⟩), .int .i64 v.s, .int .i64 v.lo, .int .i64 v.hi] 245)).drewN nq = wq1 at *
 go_wp2_with fail
 clear f1 f2 ku kv b00 b01 b02 b03 b10 b11 b12 b13 r1 r2 qu qv m00 m01 m02 m03 m10 m11 m12 m13
 obtain ⟨f1, f2, ku, kv, b00, b01, b02, b03, b10, b11, b12, b13⟩ := FU.out _ hq1
 rw [rounds_succ]
 go_wp2_with fail
 rw [hp.out]
 go_ret
 exact ⟨rfl, hbw0.trans (hq1.mono (by omega))⟩
theorem cl_none {T : TypeId} {w : World} {g : Nat} {cs : List Value} (A : Option Addr)  (hx : Vb T w g cs) : Calls Tryz.prog 186 #[.agg #[.slice A 0 0, .pointer none, .pointer none]] w fun e w' => e = .returned (.tuple #[]) ∧ Vb T w' g (cs) ∧ Below g w w' := by
 have hx1 := hx.alloc (.cells #[.slice A 0 0, .pointer none, .pointer none] 211)
 have hb := (below_alloc w (.cells #[.slice A 0 0, .pointer none, .pointer none] 211)).mono (Nat.le_of_lt hx.lt)
 go_enter Tryz.func186, Tryz.ntmps186
 go_wp2_with fail
 refine wp_loop_rounds (0 + 1) ?_
 rw [rounds_succ]
 go_wp2_with fail
 go_end0
 exact ⟨rfl, hx1, hb⟩
theorem cl_rule {T : TypeId} {w : World} {g : Nat} {cs : List Value} (A : Option Addr) (hlen : 16 ≤ cs.length) (hx : Vb T w g cs) : Calls Tryz.prog 186 #[.agg #[.slice A 0 0, .pointer (some ⟨g, 3, none⟩), .pointer none]] w fun e w' => e = .returned (.tuple #[]) ∧ Vb T w' g (setAll cs 3 [.int .i64 0, .int .i64 0, .int .i64 0, .int .i64 0, .int .i64 0, .int .i64 0, .int .u8 0, .int .u8 0, .int .u8 0, .int .u8 0, .int .u8 0, .int .u8 0, .slice none 0 0]) ∧ Below g w w' := by
 have hx1 := hx.alloc (.cells #[.slice A 0 0, .pointer (some ⟨g, 3, none⟩), .pointer none] 211)
 have hb := (below_alloc w (.cells #[.slice A 0 0, .pointer (some ⟨g, 3, none⟩), .pointer none] 211)).mono (Nat.le_of_lt hx.lt)
 have hf := hx1.free
 obtain ⟨v0, e0⟩ : ∃ v, cs[3]? = some v := ⟨_, List.getElem?_eq_getElem (by omega)⟩
 obtain ⟨v1, e1⟩ : ∃ v, cs[4]? = some v := ⟨_, List.getElem?_eq_getElem (by omega)⟩
 obtain ⟨v2, e2⟩ : ∃ v, cs[5]? = some v := ⟨_, List.getElem?_eq_getElem (by omega)⟩
 obtain ⟨v3, e3⟩ : ∃ v, cs[6]? = some v := ⟨_, List.getElem?_eq_getElem (by omega)⟩
 obtain ⟨v4, e4⟩ : ∃ v, cs[7]? = some v := ⟨_, List.getElem?_eq_getElem (by omega)⟩
 obtain ⟨v5, e5⟩ : ∃ v, cs[8]? = some v := ⟨_, List.getElem?_eq_getElem (by omega)⟩
 obtain ⟨v6, e6⟩ : ∃ v, cs[9]? = some v := ⟨_, List.getElem?_eq_getElem (by omega)⟩
 obtain ⟨v7, e7⟩ : ∃ v, cs[10]? = some v := ⟨_, List.getElem?_eq_getElem (by omega)⟩
 obtain ⟨v8, e8⟩ : ∃ v, cs[11]? = some v := ⟨_, List.getElem?_eq_getElem (by omega)⟩
 obtain ⟨v9, e9⟩ : ∃ v, cs[12]? = some v := ⟨_, List.getElem?_eq_getElem (by omega)⟩
 obtain ⟨v10, e10⟩ : ∃ v, cs[13]? = some v := ⟨_, List.getElem?_eq_getElem (by omega)⟩
 obtain ⟨v11, e11⟩ : ∃ v, cs[14]? = some v := ⟨_, List.getElem?_eq_getElem (by omega)⟩
 obtain ⟨v12, e12⟩ : ∃ v, cs[15]? = some v := ⟨_, List.getElem?_eq_getElem (by omega)⟩
 have d0 := hx1.cell 3 e0
 have d1 := hx1.cell 4 e1
 have d2 := hx1.cell 5 e2
 have d3 := hx1.cell 6 e3
 have d4 := hx1.cell 7 e4
 have d5 := hx1.cell 8 e5
 have d6 := hx1.cell 9 e6
 have d7 := hx1.cell 10 e7
 have d8 := hx1.cell 11 e8
 have d9 := hx1.cell 12 e9
 have d10 := hx1.cell 13 e10
 have d11 := hx1.cell 14 e11
 have d12 := hx1.cell 15 e12
 clear e0 e1 e2 e3 e4 e5 e6 e7 e8 e9 e10 e11 e12
 have hvb := (Vb.new 211 w [.slice A 0 0, .pointer (some ⟨g, 3, none⟩), .pointer none])
 have hlt := hx.lt
 go_enter Tryz.func186, Tryz.ntmps186
 go_wp2_with fail
 refine wp_loop_rounds (0 + 1) ?_
 rw [rounds_succ]
 go_upto_region 7 with fail
 generalize w.alloc (.cells #[.slice A 0 0, .pointer (some ⟨g, 3, none⟩), .pointer none] 211) = wz at *
 have hy := hx1.putC [.int .i64 0, .int .i64 0, .int .i64 0, .int .i64 0, .int .i64 0, .int .i64 0, .int .u8 0, .int .u8 0, .int .u8 0, .int .u8 0, .int .u8 0, .int .u8 0, .slice none 0 0] 3
 have hb2 := putC_below (Nat.le_refl g) [.int .i64 0, .int .i64 0, .int .i64 0, .int .i64 0, .int .i64 0, .int .i64 0, .int .u8 0, .int .u8 0, .int .u8 0, .int .u8 0, .int .u8 0, .int .u8 0, .slice none 0 0] 3 hb
 have hvb2 := hvb.grown (putC_grown g [.int .i64 0, .int .i64 0, .int .i64 0, .int .i64 0, .int .i64 0, .int .i64 0, .int .u8 0, .int .u8 0, .int .u8 0, .int .u8 0, .int .u8 0, .int .u8 0, .slice none 0 0] wz 3) (by omega)
 obtain ⟨q0, q1, q2⟩ := hvb.c3
 go_upto_region 8 with fail
 change Code.wp _ _ _ _ (putC wz g 3 [.int .i64 0, .int .i64 0, .int .i64 0, .int .i64 0, .int .i64 0, .int .i64 0, .int .u8 0, .int .u8 0, .int .u8 0, .int .u8 0, .int .u8 0, .int .u8 0, .slice none 0 0])
 generalize putC wz g 3 [.int .i64 0, .int .i64 0, .int .i64 0, .int .i64 0, .int .i64 0, .int .i64 0, .int .u8 0, .int .u8 0, .int .u8 0, .int .u8 0, .int .u8 0, .int .u8 0, .slice none 0 0] = wy at *
 clear q0 q1 q2 hf d0 d1 d2 d3 d4 d5 d6 d7 d8 d9 d10 d11 d12
 obtain ⟨q0, q1, q2⟩ := hvb2.c3
 go_wp2_with fail
 go_end0
 exact ⟨rfl, hy, hb2⟩
theorem cl_link {T : TypeId} {w : World} {g : Nat} {cs : List Value} (A : Option Addr) (hlen : 21 ≤ cs.length) (hx : Vb T w g cs) : Calls Tryz.prog 186 #[.agg #[.slice A 0 0, .pointer none, .pointer (some ⟨g, 16, none⟩)]] w fun e w' => e = .returned (.tuple #[]) ∧ Vb T w' g (setAll cs 16 [.int .i64 0, .int .i64 0, .int .i64 0, .int .i64 0, .int .i64 0]) ∧ Below g w w' := by
 have hx1 := hx.alloc (.cells #[.slice A 0 0, .pointer none, .pointer (some ⟨g, 16, none⟩)] 211)
 have hb := (below_alloc w (.cells #[.slice A 0 0, .pointer none, .pointer (some ⟨g, 16, none⟩)] 211)).mono (Nat.le_of_lt hx.lt)
 have hf := hx1.free
 obtain ⟨v0, e0⟩ : ∃ v, cs[16]? = some v := ⟨_, List.getElem?_eq_getElem (by omega)⟩
 obtain ⟨v1, e1⟩ : ∃ v, cs[17]? = some v := ⟨_, List.getElem?_eq_getElem (by omega)⟩
 obtain ⟨v2, e2⟩ : ∃ v, cs[18]? = some v := ⟨_, List.getElem?_eq_getElem (by omega)⟩
 obtain ⟨v3, e3⟩ : ∃ v, cs[19]? = some v := ⟨_, List.getElem?_eq_getElem (by omega)⟩
 obtain ⟨v4, e4⟩ : ∃ v, cs[20]? = some v := ⟨_, List.getElem?_eq_getElem (by omega)⟩
 have d0 := hx1.cell 16 e0
 have d1 := hx1.cell 17 e1
 have d2 := hx1.cell 18 e2
 have d3 := hx1.cell 19 e3
 have d4 := hx1.cell 20 e4
 clear e0 e1 e2 e3 e4
 have hvb := (Vb.new 211 w [.slice A 0 0, .pointer none, .pointer (some ⟨g, 16, none⟩)])
 have hlt := hx.lt
 go_enter Tryz.func186, Tryz.ntmps186
 go_wp2_with fail
 refine wp_loop_rounds (0 + 1) ?_
 rw [rounds_succ]
 go_upto_region 9 with fail
 generalize w.alloc (.cells #[.slice A 0 0, .pointer none, .pointer (some ⟨g, 16, none⟩)] 211) = wz at *
 have hy := hx1.putC [.int .i64 0, .int .i64 0, .int .i64 0, .int .i64 0, .int .i64 0] 16
 have hb2 := putC_below (Nat.le_refl g) [.int .i64 0, .int .i64 0, .int .i64 0, .int .i64 0, .int .i64 0] 16 hb
 have hvb2 := hvb.grown (putC_grown g [.int .i64 0, .int .i64 0, .int .i64 0, .int .i64 0, .int .i64 0] wz 16) (by omega)
 obtain ⟨q0, q1, q2⟩ := hvb.c3
 go_wp2_with fail
 go_end0
 exact ⟨rfl, hy, hb2⟩
theorem cl_1 {T : TypeId} {w : World} {g : Nat} {cs : List Value} (A : Option Addr) {lo m : Nat} {u : NumV} (hR : Rn w lo g A m [u]) (hlo : g < lo) (hu : u.at_ < cs.length) (hx : Vb T w g cs) : Calls Tryz.prog 186 #[.agg #[.slice A m m, .pointer none, .pointer none]] w fun e w' => e = .returned (.tuple #[]) ∧ Vb T w' g (cs.set u.at_ (.int .i64 0)) ∧ Below g w w' := by
 have hlt := hx.lt
 have hR0 := hR
 obtain ⟨hl, _, hc⟩ := hR
 simp at hl
 subst hl
 obtain ⟨b, rfl, hlb, hbw, hc⟩ := hc (by omega)
 obtain ⟨a00, a01, a02, a03⟩ := hc 0 u rfl
 simp only [Nat.zero_mul, Nat.zero_add, Nat.one_mul, Nat.reduceAdd] at a00 a01 a02 a03
 clear hc hR0
 have hvb := Vb.new 211 w [.slice (some ⟨b, 0, none⟩) 1 1, .pointer none, .pointer none]
 have FU : Kp (∀ w', World.grownBy (w.alloc (.cells #[.slice (some ⟨b, 0, none⟩) 1 1, .pointer none, .pointer none] 211)) w' (some g) → w'.cell? ⟨w.heap.size, 1, none⟩ = some (.pointer none) ∧ w'.cell? ⟨w.heap.size, 2, none⟩ = some (.pointer none) ∧ w'.cell? ⟨b, 0, none⟩ = some (.pointer (some ⟨g, u.at_, none⟩)) ∧ w'.cell? ⟨b, 1, none⟩ = some (.int .i64 u.s) ∧ w'.cell? ⟨b, 2, none⟩ = some (.int .i64 u.lo) ∧ w'.cell? ⟨b, 3, none⟩ = some (.int .i64 u.hi)) := Kp.mk (fun w' hgr => by have hvv := hvb.grown hgr (by omega); exact ⟨hvv.cell 1 rfl, hvv.cell 2 rfl, grown_cell hgr (cell_below a00 hbw (below_alloc w _)) (by omega), grown_cell hgr (cell_below a01 hbw (below_alloc w _)) (by omega), grown_cell hgr (cell_below a02 hbw (below_alloc w _)) (by omega), grown_cell hgr (cell_below a03 hbw (below_alloc w _)) (by omega)⟩)
 clear a00 a01 a02 a03
 have hx1 := hx.alloc (.cells #[.slice (some ⟨b, 0, none⟩) 1 1, .pointer none, .pointer none] 211)
 have hgr1 : World.grownBy (w.alloc (.cells #[.slice (some ⟨b, 0, none⟩) 1 1, .pointer none, .pointer none] 211)) (w.alloc (.cells #[.slice (some ⟨b, 0, none⟩) 1 1, .pointer none, .pointer none] 211)) (some g) := World.grownBy.refl _ _
 have hb1 := (below_alloc w (.cells #[.slice (some ⟨b, 0, none⟩) 1 1, .pointer none, .pointer none] 211)).mono (Nat.le_of_lt hlt)
 have hz1 : w.heap.size < (w.alloc (.cells #[.slice (some ⟨b, 0, none⟩) 1 1, .pointer none, .pointer none] 211)).heap.size := by simp
 go_enter Tryz.func186, Tryz.ntmps186
 go_wp2_with fail
 refine wp_loop_rounds (1 + 1) ?_
 obtain ⟨f1, f2, b00, b01, b02, b03⟩ := FU.out _ hgr1
 rw [rounds_succ]
 go_upto_region 4 with fail
 have hm1 := Vb.new 245 (w.alloc (.cells #[.slice (some ⟨b, 0, none⟩) 1 1, .pointer none, .pointer none] 211)) [.pointer (some ⟨g, u.at_, none⟩), .int .i64 u.s, .int .i64 u.lo, .int .i64 u.hi]
 rw [alloc_size] at hm1
 have hxa1 := hx1.alloc (.cells #[.pointer (some ⟨g, u.at_, none⟩), .int .i64 u.s, .int .i64 u.lo, .int .i64 u.hi] 245)
 have hga1 : World.grownBy (w.alloc (.cells #[.slice (some ⟨b, 0, none⟩) 1 1, .pointer none, .pointer none] 211)) ((w.alloc (.cells #[.slice (some ⟨b, 0, none⟩) 1 1, .pointer none, .pointer none] 211)).alloc (.cells #[.pointer (some ⟨g, u.at_, none⟩), .int .i64 u.s, .int .i64 u.lo, .int .i64 u.hi] 245)) (some g) := grown_trans2 hgr1 (grown_of_below (below_alloc (w.alloc (.cells #[.slice (some ⟨b, 0, none⟩) 1 1, .pointer none, .pointer none] 211)) (.cells #[.pointer (some ⟨g, u.at_, none⟩), .int .i64 u.s, .int .i64 u.lo, .int .i64 u.hi] 245)) (some g))
 have hba1 := hb1.trans ((below_alloc (w.alloc (.cells #[.slice (some ⟨b, 0, none⟩) 1 1, .pointer none, .pointer none] 211)) (.cells #[.pointer (some ⟨g, u.at_, none⟩), .int .i64 u.s, .int .i64 u.lo, .int .i64 u.hi] 245)).mono (by have := hb1.size; omega))
 have hne1 : (w.alloc (.cells #[.slice (some ⟨b, 0, none⟩) 1 1, .pointer none, .pointer none] 211)).heap.size ≠ g := by have := hb1.size; omega
 clear f1 f2 b00 b01 b02 b03
 generalize ((w.alloc (.cells #[.slice (some ⟨b, 0, none⟩) 1 1, .pointer none, .pointer none] 211)).alloc (.cells #[.pointer (some ⟨g, u.at_, none⟩), .int .i64 u.s, .int .i64 u.lo, .int .i64 u.hi] 245)) = wa1 at *
 obtain ⟨e0, e1, e2, e3⟩ := hm1.c4
 obtain ⟨x0, hx0⟩ : ∃ x, (cs)[u.at_]? = some x := ⟨_, List.getElem?_eq_getElem (by simpa using hu)⟩
 have c0 := hxa1.cell u.at_ hx0
 have hf := hxa1.free
 have hx2 := hxa1.set u.at_ (.int .i64 0)
 have hgr2 := grown_trans2 hga1 (grownBy_set wa1 g u.at_ (.int .i64 0))
 have hb2 : Below g w (wa1.setCell ⟨g, u.at_, none⟩ (.int .i64 0)) := hba1.setCell (by simp) (.int .i64 0)
 clear hx0
 go_upto_region 5 with fail
 generalize (wa1.setCell ⟨g, u.at_, none⟩ (.int .i64 0)) = wb1 at *
 clear e0 e1 e2 e3 c0 hf
 go_wp2_with fail
 obtain ⟨f1, f2, b00, b01, b02, b03⟩ := FU.out _ hgr2
 rw [rounds_succ]
 go_wp2_with fail
 go_end0
 exact ⟨rfl, hx2, hb2⟩
theorem cl_2 {T : TypeId} {w : World} {g : Nat} {cs : List Value} (A : Option Addr) {lo m : Nat} {u v : NumV} (hR : Rn w lo g A m [u, v]) (hlo : g < lo) (hu : u.at_ < cs.length) (hv : v.at_ < cs.length) (hx : Vb T w g cs) : Calls Tryz.prog 186 #[.agg #[.slice A m m, .pointer none, .pointer none]] w fun e w' => e = .returned (.tuple #[]) ∧ Vb T w' g ((cs.set u.at_ (.int .i64 0)).set v.at_ (.int .i64 0)) ∧ Below g w w' := by
 have hlt := hx.lt
 have hR0 := hR
 obtain ⟨hl, _, hc⟩ := hR
 simp at hl
 subst hl
 obtain ⟨b, rfl, hlb, hbw, hc⟩ := hc (by omega)
 obtain ⟨a00, a01, a02, a03⟩ := hc 0 u rfl
 simp only [Nat.zero_mul, Nat.zero_add, Nat.one_mul, Nat.reduceAdd] at a00 a01 a02 a03
 obtain ⟨a10, a11, a12, a13⟩ := hc 1 v rfl
 simp only [Nat.zero_mul, Nat.zero_add, Nat.one_mul, Nat.reduceAdd] at a10 a11 a12 a13
 clear hc hR0
 have hvb := Vb.new 211 w [.slice (some ⟨b, 0, none⟩) 2 2, .pointer none, .pointer none]
 have FU : Kp (∀ w', World.grownBy (w.alloc (.cells #[.slice (some ⟨b, 0, none⟩) 2 2, .pointer none, .pointer none] 211)) w' (some g) → w'.cell? ⟨w.heap.size, 1, none⟩ = some (.pointer none) ∧ w'.cell? ⟨w.heap.size, 2, none⟩ = some (.pointer none) ∧ w'.cell? ⟨b, 0, none⟩ = some (.pointer (some ⟨g, u.at_, none⟩)) ∧ w'.cell? ⟨b, 1, none⟩ = some (.int .i64 u.s) ∧ w'.cell? ⟨b, 2, none⟩ = some (.int .i64 u.lo) ∧ w'.cell? ⟨b, 3, none⟩ = some (.int .i64 u.hi) ∧ w'.cell? ⟨b, 4, none⟩ = some (.pointer (some ⟨g, v.at_, none⟩)) ∧ w'.cell? ⟨b, 5, none⟩ = some (.int .i64 v.s) ∧ w'.cell? ⟨b, 6, none⟩ = some (.int .i64 v.lo) ∧ w'.cell? ⟨b, 7, none⟩ = some (.int .i64 v.hi)) := Kp.mk (fun w' hgr => by have hvv := hvb.grown hgr (by omega); exact ⟨hvv.cell 1 rfl, hvv.cell 2 rfl, grown_cell hgr (cell_below a00 hbw (below_alloc w _)) (by omega), grown_cell hgr (cell_below a01 hbw (below_alloc w _)) (by omega), grown_cell hgr (cell_below a02 hbw (below_alloc w _)) (by omega), grown_cell hgr (cell_below a03 hbw (below_alloc w _)) (by omega), grown_cell hgr (cell_below a10 hbw (below_alloc w _)) (by omega), grown_cell hgr (cell_below a11 hbw (below_alloc w _)) (by omega), grown_cell hgr (cell_below a12 hbw (below_alloc w _)) (by omega), grown_cell hgr (cell_below a13 hbw (below_alloc w _)) (by omega)⟩)
 clear a00 a01 a02 a03 a10 a11 a12 a13
 have hx1 := hx.alloc (.cells #[.slice (some ⟨b, 0, none⟩) 2 2, .pointer none, .pointer none] 211)
 have hgr1 : World.grownBy (w.alloc (.cells #[.slice (some ⟨b, 0, none⟩) 2 2, .pointer none, .pointer none] 211)) (w.alloc (.cells #[.slice (some ⟨b, 0, none⟩) 2 2, .pointer none, .pointer none] 211)) (some g) := World.grownBy.refl _ _
 have hb1 := (below_alloc w (.cells #[.slice (some ⟨b, 0, none⟩) 2 2, .pointer none, .pointer none] 211)).mono (Nat.le_of_lt hlt)
 have hz1 : w.heap.size < (w.alloc (.cells #[.slice (some ⟨b, 0, none⟩) 2 2, .pointer none, .pointer none] 211)).heap.size := by simp
 go_enter Tryz.func186, Tryz.ntmps186
 go_wp2_with fail
 refine wp_loop_rounds (2 + 1) ?_
 obtain ⟨f1, f2, b00, b01, b02, b03, b10, b11, b12, b13⟩ := FU.out _ hgr1
 rw [rounds_succ]
 go_upto_region 4 with fail
 have hm1 := Vb.new 245 (w.alloc (.cells #[.slice (some ⟨b, 0, none⟩) 2 2, .pointer none, .pointer none] 211)) [.pointer (some ⟨g, u.at_, none⟩), .int .i64 u.s, .int .i64 u.lo, .int .i64 u.hi]
 rw [alloc_size] at hm1
 have hxa1 := hx1.alloc (.cells #[.pointer (some ⟨g, u.at_, none⟩), .int .i64 u.s, .int .i64 u.lo, .int .i64 u.hi] 245)
 have hga1 : World.grownBy (w.alloc (.cells #[.slice (some ⟨b, 0, none⟩) 2 2, .pointer none, .pointer none] 211)) ((w.alloc (.cells #[.slice (some ⟨b, 0, none⟩) 2 2, .pointer none, .pointer none] 211)).alloc (.cells #[.pointer (some ⟨g, u.at_, none⟩), .int .i64 u.s, .int .i64 u.lo, .int .i64 u.hi] 245)) (some g) := grown_trans2 hgr1 (grown_of_below (below_alloc (w.alloc (.cells #[.slice (some ⟨b, 0, none⟩) 2 2, .pointer none, .pointer none] 211)) (.cells #[.pointer (some ⟨g, u.at_, none⟩), .int .i64 u.s, .int .i64 u.lo, .int .i64 u.hi] 245)) (some g))
 have hba1 := hb1.trans ((below_alloc (w.alloc (.cells #[.slice (some ⟨b, 0, none⟩) 2 2, .pointer none, .pointer none] 211)) (.cells #[.pointer (some ⟨g, u.at_, none⟩), .int .i64 u.s, .int .i64 u.lo, .int .i64 u.hi] 245)).mono (by have := hb1.size; omega))
 have hne1 : (w.alloc (.cells #[.slice (some ⟨b, 0, none⟩) 2 2, .pointer none, .pointer none] 211)).heap.size ≠ g := by have := hb1.size; omega
 clear f1 f2 b00 b01 b02 b03 b10 b11 b12 b13
 generalize ((w.alloc (.cells #[.slice (some ⟨b, 0, none⟩) 2 2, .pointer none, .pointer none] 211)).alloc (.cells #[.pointer (some ⟨g, u.at_, none⟩), .int .i64 u.s, .int .i64 u.lo, .int .i64 u.hi] 245)) = wa1 at *
 obtain ⟨e0, e1, e2, e3⟩ := hm1.c4
 obtain ⟨x0, hx0⟩ : ∃ x, (cs)[u.at_]? = some x := ⟨_, List.getElem?_eq_getElem (by simpa using hu)⟩
 have c0 := hxa1.cell u.at_ hx0
 have hf := hxa1.free
 have hx2 := hxa1.set u.at_ (.int .i64 0)
 have hgr2 := grown_trans2 hga1 (grownBy_set wa1 g u.at_ (.int .i64 0))
 have hb2 : Below g w (wa1.setCell ⟨g, u.at_, none⟩ (.int .i64 0)) := hba1.setCell (by simp) (.int .i64 0)
 clear hx0
 go_upto_region 5 with fail
 generalize (wa1.setCell ⟨g, u.at_, none⟩ (.int .i64 0)) = wb1 at *
 clear e0 e1 e2 e3 c0 hf
 go_wp2_with fail
 obtain ⟨f1, f2, b00, b01, b02, b03, b10, b11, b12, b13⟩ := FU.out _ hgr2
 rw [rounds_succ]
 go_upto_region 4 with fail
 have hm2 := Vb.new 245 wb1 [.pointer (some ⟨g, v.at_, none⟩), .int .i64 v.s, .int .i64 v.lo, .int .i64 v.hi]
 skip
 have hxa2 := hx2.alloc (.cells #[.pointer (some ⟨g, v.at_, none⟩), .int .i64 v.s, .int .i64 v.lo, .int .i64 v.hi] 245)
 have hga2 : World.grownBy (w.alloc (.cells #[.slice (some ⟨b, 0, none⟩) 2 2, .pointer none, .pointer none] 211)) (wb1.alloc (.cells #[.pointer (some ⟨g, v.at_, none⟩), .int .i64 v.s, .int .i64 v.lo, .int .i64 v.hi] 245)) (some g) := grown_trans2 hgr2 (grown_of_below (below_alloc wb1 (.cells #[.pointer (some ⟨g, v.at_, none⟩), .int .i64 v.s, .int .i64 v.lo, .int .i64 v.hi] 245)) (some g))
 have hba2 := hb2.trans ((below_alloc wb1 (.cells #[.pointer (some ⟨g, v.at_, none⟩), .int .i64 v.s, .int .i64 v.lo, .int .i64 v.hi] 245)).mono (by have := hb2.size; omega))
 have hne2 : wb1.heap.size ≠ g := by have := hb2.size; omega
 clear f1 f2 b00 b01 b02 b03 b10 b11 b12 b13
 generalize (wb1.alloc (.cells #[.pointer (some ⟨g, v.at_, none⟩), .int .i64 v.s, .int .i64 v.lo, .int .i64 v.hi] 245)) = wa2 at *
 obtain ⟨e0, e1, e2, e3⟩ := hm2.c4
 obtain ⟨x0, hx0⟩ : ∃ x, ((cs.set u.at_ (.int .i64 0)))[v.at_]? = some x := ⟨_, List.getElem?_eq_getElem (by simpa using hv)⟩
 have c0 := hxa2.cell v.at_ hx0
 have hf := hxa2.free
 have hx3 := hxa2.set v.at_ (.int .i64 0)
 have hgr3 := grown_trans2 hga2 (grownBy_set wa2 g v.at_ (.int .i64 0))
 have hb3 : Below g w (wa2.setCell ⟨g, v.at_, none⟩ (.int .i64 0)) := hba2.setCell (by simp) (.int .i64 0)
 clear hx0
 go_upto_region 5 with fail
 generalize (wa2.setCell ⟨g, v.at_, none⟩ (.int .i64 0)) = wb2 at *
 clear e0 e1 e2 e3 c0 hf
 go_wp2_with fail
 obtain ⟨f1, f2, b00, b01, b02, b03, b10, b11, b12, b13⟩ := FU.out _ hgr3
 rw [rounds_succ]
 go_wp2_with fail
 go_end0
 exact ⟨rfl, hx3, hb3⟩
def clrO (o : OrdV) : OrdV :=
 if o.k = 2 ∨ o.k = 3 then { o with r := noRule } else if o.k = 8 then { o with f := 0, p := 0, t := 0, q := 0, z := 0 } else
 if o.k = 4 ∨ o.k = 6 then { o with n := 0 } else if o.k = 5 ∨ o.k = 7 ∨ o.k = 9 then { o with n := 0, m := 0 } else o
def clrS (o : OrdV) (S : Value) : Value := if o.k = 2 ∨ o.k = 3 then .slice none 0 0 else S
theorem isK_iff (k : Int) : isK k = true ↔ (1 ≤ k ∧ k ≤ 9) := by unfold isK; simp
theorem inB_true {n a b : Int} : inB n a b = true ↔ (a ≤ n ∧ n ≤ b) := inB_iff n a b
theorem linkB_iff (f p t q z : Int) : linkB f p t q z = true ↔ (okQ f p t q z ∧ t ≠ 0) := by unfold linkB; simp [checkQ_zero]
theorem eqQB_zero (o : OrdV) : eqQB o.f o.p o.t o.q o.z 0 0 0 0 0 = true ↔ zeroQ o := by rw [eqQB_iff]; rfl
theorem bareB_iff (o : OrdV) : bareB o = true ↔ (o.n = 0 ∧ o.m = 0 ∧ zeroR o.r ∧ zeroQ o) := by
 unfold bareB
 simp only [Bool.and_eq_true, beq_iff_eq, noneBo_iff, eqQB_zero]
theorem zeroR_no : zeroR noRule := by unfold zeroR noRule zeroM noMask; simp
theorem okOrd_parts (o : OrdV) : okOrd o ↔ (isK o.k = true ∧ mayO o = true ∧ bareB (clrO o) = true) := by
 rw [bareB_iff, isK_iff]
 unfold okOrd okNM okRu okPr mayO clrO
 by_cases h2 : o.k = 2 ∨ o.k = 3
 ·rw [if_pos h2, if_pos h2, if_pos h2, if_neg (by omega)]
  simp only [beq_iff_eq, checkR_zero]
  constructor
  ·rintro ⟨a, b, c⟩
   refine ⟨by omega, b, by omega, by omega, zeroR_no, c⟩
  ·rintro ⟨a, b, c, d, e, f⟩
   exact ⟨by omega, b, f⟩
 ·rw [if_neg h2, if_neg h2, if_neg h2]
  by_cases h8 : o.k = 8
  ·rw [if_pos h8, if_pos h8, if_pos h8, linkB_iff]
   constructor
   ·rintro ⟨a, b, c⟩
    exact ⟨by omega, c, by simp only; omega, by simp only; omega, b, rfl, rfl, rfl, rfl, rfl⟩
   ·rintro ⟨a, b, c, d, e, f⟩
    simp only at c d e
    exact ⟨by omega, e, b⟩
  ·rw [if_neg h8, if_neg h8, if_neg h8]
   unfold numsOf
   by_cases h4 : o.k = 4
   ·rw [if_pos h4, if_pos (by omega)]
    simp only [List.all_cons, List.all_nil, Bool.and_true, inB_true, numAt, if_pos, within]
    constructor
    ·rintro ⟨a, b, c⟩; exact ⟨by omega, by omega, trivial, by omega, b, c⟩
    ·rintro ⟨a, b, c, d, e, f⟩; exact ⟨by omega, e, f⟩
   by_cases h6 : o.k = 6
   ·rw [if_neg h4, if_neg (by omega), if_pos h6, if_pos (by omega)]
    simp only [List.all_cons, List.all_nil, Bool.and_true, inB_true, numAt, if_pos, within]
    constructor
    ·rintro ⟨a, b, c⟩; exact ⟨by omega, by omega, trivial, by omega, b, c⟩
    ·rintro ⟨a, b, c, d, e, f⟩; exact ⟨by omega, e, f⟩
   by_cases h5 : o.k = 5
   ·rw [if_neg h4, if_pos h5, if_neg (by omega), if_pos (by omega)]
    simp only [List.all_cons, List.all_nil, Bool.and_true, Bool.and_eq_true, inB_true, numAt, if_pos, within, if_neg (show ¬ (2 : Nat) = 1 by omega)]
    constructor
    ·rintro ⟨a, b, c⟩; exact ⟨by omega, ⟨by omega, by omega⟩, trivial, trivial, b, c⟩
    ·rintro ⟨a, ⟨b1, b2⟩, c, d, e, f⟩; exact ⟨by omega, e, f⟩
   by_cases h7 : o.k = 7
   ·rw [if_neg h4, if_neg h5, if_neg h6, if_pos h7, if_neg (by omega), if_pos (by omega)]
    simp only [List.all_cons, List.all_nil, Bool.and_true, Bool.and_eq_true, inB_true, numAt, if_pos, within, if_neg (show ¬ (2 : Nat) = 1 by omega)]
    constructor
    ·rintro ⟨a, b, c⟩; exact ⟨by omega, ⟨by omega, by omega⟩, trivial, trivial, b, c⟩
    ·rintro ⟨a, ⟨b1, b2⟩, c, d, e, f⟩; exact ⟨by omega, e, f⟩
   by_cases h9 : o.k = 9
   ·rw [if_neg h4, if_neg h5, if_neg h6, if_neg h7, if_pos h9, if_neg (by omega), if_pos (by omega)]
    simp only [List.all_cons, List.all_nil, Bool.and_true, Bool.and_eq_true, inB_true, numAt, if_pos, within, if_neg (show ¬ (2 : Nat) = 1 by omega)]
    constructor
    ·rintro ⟨a, b, c⟩; exact ⟨by omega, ⟨by omega, by omega⟩, trivial, trivial, b, c⟩
    ·rintro ⟨a, ⟨b1, b2⟩, c, d, e, f⟩; exact ⟨by omega, e, f⟩
   rw [if_neg h4, if_neg h5, if_neg h6, if_neg h7, if_neg h9, if_neg (by omega), if_neg (by omega)]
   simp only [List.all_nil, within]
   constructor
   ·rintro ⟨a, b, c⟩; exact ⟨by omega, trivial, by omega, by omega, b, c⟩
   ·rintro ⟨a, b, c, d, e, f⟩; exact ⟨by omega, e, f⟩
section
variable {w : World} {B lo g n c m : Nat} {S A : Option Addr} {o : OrdV}
theorem mayBe_any (hx : Vb 206 w g (ocl o (.slice S n c))) (h : Ro w B S n c o.r.os) (hB : B ≤ w.heap.size) (hR : Rn w lo g A m (numsOf o.k)) :
  Calls Tryz.prog 185 #[.agg #[.slice A m m, .pointer (ruP o.k g), .pointer (prP o.k g)]] w fun e w' => e = .returned (.bool (mayO o)) ∧ Below w.heap.size w w' := by
 obtain ⟨d0, d1, d2, d3, d4, d5, d6, d7, d8, d9, d10, d11, d12, d13, d14, d15, d16, d17, d18, d19, d20⟩ := hx.ord
 have hg := hx.lt
 unfold ruP prP mayO
 by_cases h2 : o.k = 2 ∨ o.k = 3
 ·have hn : numsOf o.k = [] := by unfold numsOf; rw [if_neg (by omega), if_neg (by omega), if_neg (by omega), if_neg (by omega), if_neg (by omega)]
  rw [hn] at hR
  have hm := hR.1
  simp at hm
  subst hm
  rw [if_pos h2, if_neg (by omega), if_pos h2]
  exact mb_rule A o.r h hB hg ⟨d3, d4, d5, d6, d7, d8, d9, d10, d11, d12, d13, d14, d15⟩
 rw [if_neg h2, if_neg h2]
 by_cases h8 : o.k = 8
 ·have hn : numsOf o.k = [] := by rw [h8]; rfl
  rw [hn] at hR
  have hm := hR.1
  simp at hm
  subst hm
  rw [if_pos h8, if_pos h8]
  exact mb_link A o.f o.p o.t o.q o.z hg ⟨d16, d17, d18, d19, d20⟩
 rw [if_neg h8, if_neg h8]
 by_cases h4k : o.k = 4
 ·rw [h4k] at hR ⊢
  refine (mb_1 (o.n) hR hg d1).mono (fun e w' ⟨he, hb⟩ => ⟨by rw [he]; show _ = Ending.returned (.bool (_ && true)); rw [Bool.and_true]; rfl, hb⟩)
 by_cases h5k : o.k = 5
 ·rw [h5k] at hR ⊢
  refine (mb_2 (o.n) (o.m) hR hg d1 d2).mono (fun e w' ⟨he, hb⟩ => ⟨by rw [he]; show _ = Ending.returned (.bool (_ && (_ && true))); rw [Bool.and_true]; rfl, hb⟩)
 by_cases h6k : o.k = 6
 ·rw [h6k] at hR ⊢
  refine (mb_1 (o.n) hR hg d1).mono (fun e w' ⟨he, hb⟩ => ⟨by rw [he]; show _ = Ending.returned (.bool (_ && true)); rw [Bool.and_true]; rfl, hb⟩)
 by_cases h7k : o.k = 7
 ·rw [h7k] at hR ⊢
  refine (mb_2 (o.n) (o.m) hR hg d1 d2).mono (fun e w' ⟨he, hb⟩ => ⟨by rw [he]; show _ = Ending.returned (.bool (_ && (_ && true))); rw [Bool.and_true]; rfl, hb⟩)
 by_cases h9k : o.k = 9
 ·rw [h9k] at hR ⊢
  refine (mb_2 (o.n) (o.m) hR hg d1 d2).mono (fun e w' ⟨he, hb⟩ => ⟨by rw [he]; show _ = Ending.returned (.bool (_ && (_ && true))); rw [Bool.and_true]; rfl, hb⟩)
 have hn : numsOf o.k = [] := by unfold numsOf; rw [if_neg (by omega), if_neg (by omega), if_neg (by omega), if_neg (by omega), if_neg (by omega)]
 rw [hn] at hR ⊢
 have hm := hR.1
 simp at hm
 subst hm
 exact mb_none A
theorem clear_any (hx : Vb 206 w g (ocl o (.slice S n c))) (hR : Rn w lo g A m (numsOf o.k)) (hlo : g < lo) :
  Calls Tryz.prog 186 #[.agg #[.slice A m m, .pointer (ruP o.k g), .pointer (prP o.k g)]] w fun e w' => e = .returned (.tuple #[]) ∧ Vb 206 w' g (ocl (clrO o) (clrS o (.slice S n c))) ∧ Below g w w' := by
 unfold ruP prP clrO clrS
 by_cases h2 : o.k = 2 ∨ o.k = 3
 ·have hn : numsOf o.k = [] := by unfold numsOf; rw [if_neg (by omega), if_neg (by omega), if_neg (by omega), if_neg (by omega), if_neg (by omega)]
  rw [hn] at hR
  have hm := hR.1
  simp at hm
  subst hm
  rw [if_pos h2, if_neg (by omega), if_pos h2, if_pos h2]
  exact cl_rule A (by simp [ocl]) hx
 rw [if_neg h2, if_neg h2, if_neg h2]
 by_cases h8 : o.k = 8
 ·have hn : numsOf o.k = [] := by rw [h8]; rfl
  rw [hn] at hR
  have hm := hR.1
  simp at hm
  subst hm
  rw [if_pos h8, if_pos h8]
  exact cl_link A (by simp [ocl]) hx
 rw [if_neg h8, if_neg h8]
 by_cases h4k : o.k = 4
 ·rw [if_pos (by omega)]
  rw [h4k] at hR
  exact cl_1 A hR hlo (by simp [ocl]) hx
 by_cases h5k : o.k = 5
 ·rw [if_neg (by omega), if_pos (by omega)]
  rw [h5k] at hR
  exact cl_2 A hR hlo (by simp [ocl]) (by simp [ocl]) hx
 by_cases h6k : o.k = 6
 ·rw [if_pos (by omega)]
  rw [h6k] at hR
  exact cl_1 A hR hlo (by simp [ocl]) hx
 by_cases h7k : o.k = 7
 ·rw [if_neg (by omega), if_pos (by omega)]
  rw [h7k] at hR
  exact cl_2 A hR hlo (by simp [ocl]) (by simp [ocl]) hx
 by_cases h9k : o.k = 9
 ·rw [if_neg (by omega), if_pos (by omega)]
  rw [h9k] at hR
  exact cl_2 A hR hlo (by simp [ocl]) (by simp [ocl]) hx
 have hn : numsOf o.k = [] := by unfold numsOf; rw [if_neg (by omega), if_neg (by omega), if_neg (by omega), if_neg (by omega), if_neg (by omega)]
 rw [if_neg (by omega), if_neg (by omega)]
 rw [hn] at hR
 have hm := hR.1
 simp at hm
 subst hm
 exact cl_none A hx
end
theorem isBare_any {w : World} {B g n c : Nat} {S : Option Addr} {o : OrdV} (hx : Vb 206 w g (ocl o (.slice S n c))) (h : Ro w B S n c o.r.os) (hB : B ≤ w.heap.size) : Calls Tryz.prog 187 #[.pointer (some ⟨g, 0, none⟩)] w fun e w' => e = .returned (.bool (bareB o)) ∧ Below w.heap.size w w' := by
 have HC := Kp.mk (isNone_any o.r h hB)
 have eQ : ∀ w, (Op.equalIn 10000 49 (.agg #[.int .i64 o.f, .int .i64 o.p, .int .i64 o.t, .int .i64 o.q, .int .i64 o.z]) (.agg #[.int .i64 0, .int .i64 0, .int .i64 0, .int .i64 0, .int .i64 0])).run Tryz.prog w = .ok (eqQB o.f o.p o.t o.q o.z 0 0 0 0 0) w := fun w => eq_probe o.f o.p o.t o.q o.z 0 0 0 0 0 w
 obtain ⟨d0, d1, d2, d3, d4, d5, d6, d7, d8, d9, d10, d11, d12, d13, d14, d15, d16, d17, d18, d19, d20⟩ := hx.ord
 by_cases c0 : (o.n == 0) = true
 rotate_left
 ·have c0' : (o.n == 0) = false := by simpa using c0
  clear c0
  have hp := Kp.mk (show bareB o = false by unfold bareB; rw [c0']; rfl)
  go_enter Tryz.func187, Tryz.ntmps187
  go_wp2_with fail
  rw [hp.out]
  go_ret
  exact ⟨rfl, Below.refl _ _⟩
 by_cases c1 : (o.m == 0) = true
 rotate_left
 ·have c1' : (o.m == 0) = false := by simpa using c1
  clear c1
  have hp := Kp.mk (show bareB o = false by unfold bareB; rw [c0, c1']; rfl)
  go_enter Tryz.func187, Tryz.ntmps187
  go_wp2_with fail
  rw [hp.out]
  go_ret
  exact ⟨rfl, Below.refl _ _⟩
 by_cases c2 : (noneBo o.r) = true
 rotate_left
 ·have c2' : (noneBo o.r) = false := by simpa using c2
  clear c2
  have hp := Kp.mk (show bareB o = false by unfold bareB; rw [c0, c1, c2']; rfl)
  go_enter Tryz.func187, Tryz.ntmps187
  go_wp2_with fail
  refine HC.out.mono ?_
  rintro e w1 ⟨rfl, hb1⟩
  simp only [c0, c1, c2']
  have hx1 := hx.below hb1 hx.lt
  clear d0 d1 d2 d3 d4 d5 d6 d7 d8 d9 d10 d11 d12 d13 d14 d15 d16 d17 d18 d19 d20
  obtain ⟨d0, d1, d2, d3, d4, d5, d6, d7, d8, d9, d10, d11, d12, d13, d14, d15, d16, d17, d18, d19, d20⟩ := hx1.ord
  go_wp2_with fail
  rw [hp.out]
  go_ret
  exact ⟨rfl, hb1⟩
 by_cases c3 : (eqQB o.f o.p o.t o.q o.z 0 0 0 0 0) = true
 rotate_left
 ·have c3' : (eqQB o.f o.p o.t o.q o.z 0 0 0 0 0) = false := by simpa using c3
  clear c3
  have hp := Kp.mk (show bareB o = false by unfold bareB; rw [c0, c1, c2, c3']; rfl)
  go_enter Tryz.func187, Tryz.ntmps187
  go_wp2_with fail
  refine HC.out.mono ?_
  rintro e w1 ⟨rfl, hb1⟩
  simp only [c0, c1, c2, c3']
  have hx1 := hx.below hb1 hx.lt
  clear d0 d1 d2 d3 d4 d5 d6 d7 d8 d9 d10 d11 d12 d13 d14 d15 d16 d17 d18 d19 d20
  obtain ⟨d0, d1, d2, d3, d4, d5, d6, d7, d8, d9, d10, d11, d12, d13, d14, d15, d16, d17, d18, d19, d20⟩ := hx1.ord
  go_wp2_with fail
  rw [hp.out]
  go_ret
  exact ⟨rfl, hb1⟩
 have hp := Kp.mk (show bareB o = true by unfold bareB; rw [c0, c1, c2, c3]; rfl)
 go_enter Tryz.func187, Tryz.ntmps187
 go_wp2_with fail
 refine HC.out.mono ?_
 rintro e w1 ⟨rfl, hb1⟩
 simp only [c0, c1, c2, c3]
 have hx1 := hx.below hb1 hx.lt
 clear d0 d1 d2 d3 d4 d5 d6 d7 d8 d9 d10 d11 d12 d13 d14 d15 d16 d17 d18 d19 d20
 obtain ⟨d0, d1, d2, d3, d4, d5, d6, d7, d8, d9, d10, d11, d12, d13, d14, d15, d16, d17, d18, d19, d20⟩ := hx1.ord
 go_wp2_with fail
 rw [hp.out]
 go_ret
 exact ⟨rfl, hb1⟩
theorem checkO_no {o : OrdV} (h : ¬ (isK o.k = true ∧ mayO o = true ∧ bareB (clrO o) = true)) : checkO o = 2 := if_neg (fun hh => h ((okOrd_parts o).1 hh))
theorem checkO_yes {o : OrdV} (h : isK o.k = true ∧ mayO o = true ∧ bareB (clrO o) = true) : checkO o = 0 := if_pos ((okOrd_parts o).2 h)
theorem clrS_row {w : World} {B n c : Nat} {S : Option Addr} {o : OrdV} (h : Ro w B S n c o.r.os) : ∃ S' n' c', clrS o (.slice S n c) = .slice S' n' c' ∧ Ro w B S' n' c' (clrO o).r.os := by
 unfold clrS clrO
 by_cases h2 : o.k = 2 ∨ o.k = 3
 ·rw [if_pos h2, if_pos h2]; exact ⟨none, 0, 0, rfl, Ro.nil _ _⟩
 ·rw [if_neg h2, if_neg h2]
  refine ⟨S, n, c, rfl, ?_⟩
  split
  ·exact h
  ·split
   ·exact h
   ·split
    ·exact h
    ·exact h
theorem orderCheck_0 {w : World} {B n c : Nat} {A : Option Addr} (o : OrdV) (h : Ro w B A n c o.r.os) (hB : B ≤ w.heap.size) (c0' : isK o.k = false) : Calls Tryz.prog 153 #[.agg #[.int .i64 o.k, .int .i64 o.n, .int .i64 o.m, .int .i64 o.r.k, .int .i64 o.r.pr, .int .i64 o.r.to, .int .i64 o.r.po, .int .i64 o.r.x.v, .int .i64 o.r.x.m, .int .u8 o.r.x.b0, .int .u8 o.r.x.b1, .int .u8 o.r.x.b2, .int .u8 o.r.x.i0, .int .u8 o.r.x.i1, .int .u8 o.r.x.i2, .slice A n c, .int .i64 o.f, .int .i64 o.p, .int .i64 o.t, .int .i64 o.q, .int .i64 o.z]] w fun e w' => e = .returned (.int .i64 (checkO o)) ∧ Below w.heap.size w w' := by
 have hp := Kp.mk (checkO_no (o := o) (fun hh => by have := hh.1; rw [c0'] at this; simp at this))
 have hba := below_alloc w (.cells #[.int .i64 o.k, .int .i64 o.n, .int .i64 o.m, .int .i64 o.r.k, .int .i64 o.r.pr, .int .i64 o.r.to, .int .i64 o.r.po, .int .i64 o.r.x.v, .int .i64 o.r.x.m, .int .u8 o.r.x.b0, .int .u8 o.r.x.b1, .int .u8 o.r.x.b2, .int .u8 o.r.x.i0, .int .u8 o.r.x.i1, .int .u8 o.r.x.i2, .slice A n c, .int .i64 o.f, .int .i64 o.p, .int .i64 o.t, .int .i64 o.q, .int .i64 o.z] 51)
 have hza : (w.alloc (.cells #[.int .i64 o.k, .int .i64 o.n, .int .i64 o.m, .int .i64 o.r.k, .int .i64 o.r.pr, .int .i64 o.r.to, .int .i64 o.r.po, .int .i64 o.r.x.v, .int .i64 o.r.x.m, .int .u8 o.r.x.b0, .int .u8 o.r.x.b1, .int .u8 o.r.x.b2, .int .u8 o.r.x.i0, .int .u8 o.r.x.i1, .int .u8 o.r.x.i2, .slice A n c, .int .i64 o.f, .int .i64 o.p, .int .i64 o.t, .int .i64 o.q, .int .i64 o.z] 51)).heap.size = w.heap.size + 1 := by simp
 have hxa : Vb 51 (w.alloc (.cells #[.int .i64 o.k, .int .i64 o.n, .int .i64 o.m, .int .i64 o.r.k, .int .i64 o.r.pr, .int .i64 o.r.to, .int .i64 o.r.po, .int .i64 o.r.x.v, .int .i64 o.r.x.m, .int .u8 o.r.x.b0, .int .u8 o.r.x.b1, .int .u8 o.r.x.b2, .int .u8 o.r.x.i0, .int .u8 o.r.x.i1, .int .u8 o.r.x.i2, .slice A n c, .int .i64 o.f, .int .i64 o.p, .int .i64 o.t, .int .i64 o.q, .int .i64 o.z] 51)) w.heap.size (ocl o (.slice A n c)) := Vb.new 51 w (ocl o (.slice A n c))
 go_enter Tryz.func153, Tryz.ntmps153
 go_upto_region 1 with fail
 generalize (w.alloc (.cells #[.int .i64 o.k, .int .i64 o.n, .int .i64 o.m, .int .i64 o.r.k, .int .i64 o.r.pr, .int .i64 o.r.to, .int .i64 o.r.po, .int .i64 o.r.x.v, .int .i64 o.r.x.m, .int .u8 o.r.x.b0, .int .u8 o.r.x.b1, .int .u8 o.r.x.b2, .int .u8 o.r.x.i0, .int .u8 o.r.x.i1, .int .u8 o.r.x.i2, .slice A n c, .int .i64 o.f, .int .i64 o.p, .int .i64 o.t, .int .i64 o.q, .int .i64 o.z] 51)) = wa at *
 go_upto_region 2 with (first | (refine wpList_load_vb (vs := ocl o (.slice A n c)) rfl (.tmp 1) rfl rfl hxa rfl agg_order ?_) | (refine wpList_store_new (vs := ocl o (.slice A n c)) rfl (.tmp 3) (.tmp 6) rfl rfl rfl rfl (by omega) rfl agg_own rfl ?_; intro w0 hx0 hbn hz0))
 have hb0 := hba.trans (hbn.mono (by omega))
 have h0 := h.below' hb0 hB
 have hz0' : w0.heap.size = w.heap.size + 2 := by omega
 clear hxa hba hbn
 go_wp2_with fail
 refine (partsOf_any (w.heap.size + 1) w0 o.k hx0.ord.1).mono ?_
 rintro e w1 ⟨Q, m, rfl, hR1, hb1⟩
 have hx1 := hx0.below hb1 (by omega)
 have h1 := h0.below' hb1 (by omega)
 have hz1 := hb1.size
 simp only [c0']
 go_wp2_with fail
 rw [hp.out]
 go_ret
 exact ⟨rfl, hb0.trans ((hb1.mono (by omega)).trans ((below_alloc w1 (.cells #[.slice Q m m, .pointer (ruP o.k (w.heap.size + 1)), .pointer (prP o.k (w.heap.size + 1))] 211)).mono (by omega)))⟩
theorem orderCheck_1 {w : World} {B n c : Nat} {A : Option Addr} (o : OrdV) (h : Ro w B A n c o.r.os) (hB : B ≤ w.heap.size) (c0 : isK o.k = true) (c1' : mayO o = false) : Calls Tryz.prog 153 #[.agg #[.int .i64 o.k, .int .i64 o.n, .int .i64 o.m, .int .i64 o.r.k, .int .i64 o.r.pr, .int .i64 o.r.to, .int .i64 o.r.po, .int .i64 o.r.x.v, .int .i64 o.r.x.m, .int .u8 o.r.x.b0, .int .u8 o.r.x.b1, .int .u8 o.r.x.b2, .int .u8 o.r.x.i0, .int .u8 o.r.x.i1, .int .u8 o.r.x.i2, .slice A n c, .int .i64 o.f, .int .i64 o.p, .int .i64 o.t, .int .i64 o.q, .int .i64 o.z]] w fun e w' => e = .returned (.int .i64 (checkO o)) ∧ Below w.heap.size w w' := by
 have hp := Kp.mk (checkO_no (o := o) (fun hh => by have := hh.2.1; rw [c1'] at this; simp at this))
 have hba := below_alloc w (.cells #[.int .i64 o.k, .int .i64 o.n, .int .i64 o.m, .int .i64 o.r.k, .int .i64 o.r.pr, .int .i64 o.r.to, .int .i64 o.r.po, .int .i64 o.r.x.v, .int .i64 o.r.x.m, .int .u8 o.r.x.b0, .int .u8 o.r.x.b1, .int .u8 o.r.x.b2, .int .u8 o.r.x.i0, .int .u8 o.r.x.i1, .int .u8 o.r.x.i2, .slice A n c, .int .i64 o.f, .int .i64 o.p, .int .i64 o.t, .int .i64 o.q, .int .i64 o.z] 51)
 have hza : (w.alloc (.cells #[.int .i64 o.k, .int .i64 o.n, .int .i64 o.m, .int .i64 o.r.k, .int .i64 o.r.pr, .int .i64 o.r.to, .int .i64 o.r.po, .int .i64 o.r.x.v, .int .i64 o.r.x.m, .int .u8 o.r.x.b0, .int .u8 o.r.x.b1, .int .u8 o.r.x.b2, .int .u8 o.r.x.i0, .int .u8 o.r.x.i1, .int .u8 o.r.x.i2, .slice A n c, .int .i64 o.f, .int .i64 o.p, .int .i64 o.t, .int .i64 o.q, .int .i64 o.z] 51)).heap.size = w.heap.size + 1 := by simp
 have hxa : Vb 51 (w.alloc (.cells #[.int .i64 o.k, .int .i64 o.n, .int .i64 o.m, .int .i64 o.r.k, .int .i64 o.r.pr, .int .i64 o.r.to, .int .i64 o.r.po, .int .i64 o.r.x.v, .int .i64 o.r.x.m, .int .u8 o.r.x.b0, .int .u8 o.r.x.b1, .int .u8 o.r.x.b2, .int .u8 o.r.x.i0, .int .u8 o.r.x.i1, .int .u8 o.r.x.i2, .slice A n c, .int .i64 o.f, .int .i64 o.p, .int .i64 o.t, .int .i64 o.q, .int .i64 o.z] 51)) w.heap.size (ocl o (.slice A n c)) := Vb.new 51 w (ocl o (.slice A n c))
 go_enter Tryz.func153, Tryz.ntmps153
 go_upto_region 1 with fail
 generalize (w.alloc (.cells #[.int .i64 o.k, .int .i64 o.n, .int .i64 o.m, .int .i64 o.r.k, .int .i64 o.r.pr, .int .i64 o.r.to, .int .i64 o.r.po, .int .i64 o.r.x.v, .int .i64 o.r.x.m, .int .u8 o.r.x.b0, .int .u8 o.r.x.b1, .int .u8 o.r.x.b2, .int .u8 o.r.x.i0, .int .u8 o.r.x.i1, .int .u8 o.r.x.i2, .slice A n c, .int .i64 o.f, .int .i64 o.p, .int .i64 o.t, .int .i64 o.q, .int .i64 o.z] 51)) = wa at *
 go_upto_region 2 with (first | (refine wpList_load_vb (vs := ocl o (.slice A n c)) rfl (.tmp 1) rfl rfl hxa rfl agg_order ?_) | (refine wpList_store_new (vs := ocl o (.slice A n c)) rfl (.tmp 3) (.tmp 6) rfl rfl rfl rfl (by omega) rfl agg_own rfl ?_; intro w0 hx0 hbn hz0))
 have hb0 := hba.trans (hbn.mono (by omega))
 have h0 := h.below' hb0 hB
 have hz0' : w0.heap.size = w.heap.size + 2 := by omega
 clear hxa hba hbn
 go_wp2_with fail
 refine (partsOf_any (w.heap.size + 1) w0 o.k hx0.ord.1).mono ?_
 rintro e w1 ⟨Q, m, rfl, hR1, hb1⟩
 have hx1 := hx0.below hb1 (by omega)
 have h1 := h0.below' hb1 (by omega)
 have hz1 := hb1.size
 simp only [c0]
 have hba := below_alloc w1 (.cells #[.slice Q m m, .pointer (ruP o.k (w.heap.size + 1)), .pointer (prP o.k (w.heap.size + 1))] 211)
 have hv2 := Vb.new 211 w1 [.slice Q m m, .pointer (ruP o.k (w.heap.size + 1)), .pointer (prP o.k (w.heap.size + 1))]
 have hx2 := hx1.below hba (by omega)
 have h2 := h1.below' hba (by omega)
 have hR2 := hR1.below hba
 have hz2 : (w1.alloc (.cells #[.slice Q m m, .pointer (ruP o.k (w.heap.size + 1)), .pointer (prP o.k (w.heap.size + 1))] 211)).heap.size = w1.heap.size + 1 := by simp
 have hT2 := hb0.trans ((hb1.mono (by omega)).trans (hba.mono (by omega)))
 go_upto_region 3 with fail
 generalize w1.alloc (.cells #[.slice Q m m, .pointer (ruP o.k (w.heap.size + 1)), .pointer (prP o.k (w.heap.size + 1))] 211) = w2 at *
 obtain ⟨d0, d1, d2⟩ := hv2.c3
 go_wp2_with fail
 refine (mayBe_any hx2 h2 (by omega) hR2).mono ?_
 rintro e w3 ⟨rfl, hb3⟩
 simp only [c1']
 go_wp2_with fail
 rw [hp.out]
 go_ret
 exact ⟨rfl, hT2.trans (hb3.mono (by omega))⟩
theorem orderCheck_2 {w : World} {B n c : Nat} {A : Option Addr} (o : OrdV) (h : Ro w B A n c o.r.os) (hB : B ≤ w.heap.size) (c0 : isK o.k = true) (c1 : mayO o = true) (c2' : bareB (clrO o) = false) : Calls Tryz.prog 153 #[.agg #[.int .i64 o.k, .int .i64 o.n, .int .i64 o.m, .int .i64 o.r.k, .int .i64 o.r.pr, .int .i64 o.r.to, .int .i64 o.r.po, .int .i64 o.r.x.v, .int .i64 o.r.x.m, .int .u8 o.r.x.b0, .int .u8 o.r.x.b1, .int .u8 o.r.x.b2, .int .u8 o.r.x.i0, .int .u8 o.r.x.i1, .int .u8 o.r.x.i2, .slice A n c, .int .i64 o.f, .int .i64 o.p, .int .i64 o.t, .int .i64 o.q, .int .i64 o.z]] w fun e w' => e = .returned (.int .i64 (checkO o)) ∧ Below w.heap.size w w' := by
 have hp := Kp.mk (checkO_no (o := o) (fun hh => by have := hh.2.2; rw [c2'] at this; simp at this))
 have hba := below_alloc w (.cells #[.int .i64 o.k, .int .i64 o.n, .int .i64 o.m, .int .i64 o.r.k, .int .i64 o.r.pr, .int .i64 o.r.to, .int .i64 o.r.po, .int .i64 o.r.x.v, .int .i64 o.r.x.m, .int .u8 o.r.x.b0, .int .u8 o.r.x.b1, .int .u8 o.r.x.b2, .int .u8 o.r.x.i0, .int .u8 o.r.x.i1, .int .u8 o.r.x.i2, .slice A n c, .int .i64 o.f, .int .i64 o.p, .int .i64 o.t, .int .i64 o.q, .int .i64 o.z] 51)
 have hza : (w.alloc (.cells #[.int .i64 o.k, .int .i64 o.n, .int .i64 o.m, .int .i64 o.r.k, .int .i64 o.r.pr, .int .i64 o.r.to, .int .i64 o.r.po, .int .i64 o.r.x.v, .int .i64 o.r.x.m, .int .u8 o.r.x.b0, .int .u8 o.r.x.b1, .int .u8 o.r.x.b2, .int .u8 o.r.x.i0, .int .u8 o.r.x.i1, .int .u8 o.r.x.i2, .slice A n c, .int .i64 o.f, .int .i64 o.p, .int .i64 o.t, .int .i64 o.q, .int .i64 o.z] 51)).heap.size = w.heap.size + 1 := by simp
 have hxa : Vb 51 (w.alloc (.cells #[.int .i64 o.k, .int .i64 o.n, .int .i64 o.m, .int .i64 o.r.k, .int .i64 o.r.pr, .int .i64 o.r.to, .int .i64 o.r.po, .int .i64 o.r.x.v, .int .i64 o.r.x.m, .int .u8 o.r.x.b0, .int .u8 o.r.x.b1, .int .u8 o.r.x.b2, .int .u8 o.r.x.i0, .int .u8 o.r.x.i1, .int .u8 o.r.x.i2, .slice A n c, .int .i64 o.f, .int .i64 o.p, .int .i64 o.t, .int .i64 o.q, .int .i64 o.z] 51)) w.heap.size (ocl o (.slice A n c)) := Vb.new 51 w (ocl o (.slice A n c))
 go_enter Tryz.func153, Tryz.ntmps153
 go_upto_region 1 with fail
 generalize (w.alloc (.cells #[.int .i64 o.k, .int .i64 o.n, .int .i64 o.m, .int .i64 o.r.k, .int .i64 o.r.pr, .int .i64 o.r.to, .int .i64 o.r.po, .int .i64 o.r.x.v, .int .i64 o.r.x.m, .int .u8 o.r.x.b0, .int .u8 o.r.x.b1, .int .u8 o.r.x.b2, .int .u8 o.r.x.i0, .int .u8 o.r.x.i1, .int .u8 o.r.x.i2, .slice A n c, .int .i64 o.f, .int .i64 o.p, .int .i64 o.t, .int .i64 o.q, .int .i64 o.z] 51)) = wa at *
 go_upto_region 2 with (first | (refine wpList_load_vb (vs := ocl o (.slice A n c)) rfl (.tmp 1) rfl rfl hxa rfl agg_order ?_) | (refine wpList_store_new (vs := ocl o (.slice A n c)) rfl (.tmp 3) (.tmp 6) rfl rfl rfl rfl (by omega) rfl agg_own rfl ?_; intro w0 hx0 hbn hz0))
 have hb0 := hba.trans (hbn.mono (by omega))
 have h0 := h.below' hb0 hB
 have hz0' : w0.heap.size = w.heap.size + 2 := by omega
 clear hxa hba hbn
 go_wp2_with fail
 refine (partsOf_any (w.heap.size + 1) w0 o.k hx0.ord.1).mono ?_
 rintro e w1 ⟨Q, m, rfl, hR1, hb1⟩
 have hx1 := hx0.below hb1 (by omega)
 have h1 := h0.below' hb1 (by omega)
 have hz1 := hb1.size
 simp only [c0]
 have hba := below_alloc w1 (.cells #[.slice Q m m, .pointer (ruP o.k (w.heap.size + 1)), .pointer (prP o.k (w.heap.size + 1))] 211)
 have hv2 := Vb.new 211 w1 [.slice Q m m, .pointer (ruP o.k (w.heap.size + 1)), .pointer (prP o.k (w.heap.size + 1))]
 have hx2 := hx1.below hba (by omega)
 have h2 := h1.below' hba (by omega)
 have hR2 := hR1.below hba
 have hz2 : (w1.alloc (.cells #[.slice Q m m, .pointer (ruP o.k (w.heap.size + 1)), .pointer (prP o.k (w.heap.size + 1))] 211)).heap.size = w1.heap.size + 1 := by simp
 have hT2 := hb0.trans ((hb1.mono (by omega)).trans (hba.mono (by omega)))
 go_upto_region 3 with fail
 generalize w1.alloc (.cells #[.slice Q m m, .pointer (ruP o.k (w.heap.size + 1)), .pointer (prP o.k (w.heap.size + 1))] 211) = w2 at *
 obtain ⟨d0, d1, d2⟩ := hv2.c3
 go_wp2_with fail
 refine (mayBe_any hx2 h2 (by omega) hR2).mono ?_
 rintro e w3 ⟨rfl, hb3⟩
 simp only [c1]
 have hx3 := hx2.below hb3 (by omega)
 have h3 := h2.below' hb3 (by omega)
 have hR3 := hR2.below hb3
 have hv3 := hv2.below hb3 (by omega)
 have hT3 := hT2.trans (hb3.mono (by omega))
 have hz3 := hb3.size
 clear d0 d1 d2
 obtain ⟨d0, d1, d2⟩ := hv3.c3
 go_wp2_with fail
 refine (clear_any hx3 (hR3.lower (lo' := w.heap.size + 2) (by omega)) (by omega)).mono ?_
 rintro e w4 ⟨rfl, hx4, hb4⟩
 have hz4 := hb4.size
 have h4 := h3.below' hb4 (by omega)
 obtain ⟨S', n', c', eS, h4'⟩ := clrS_row h4
 rw [eS] at hx4
 go_wp2_with fail
 refine (isBare_any hx4 h4' (by omega)).mono ?_
 rintro e w5 ⟨rfl, hb5⟩
 simp only [c2']
 go_wp2_with fail
 rw [hp.out]
 go_ret
 exact ⟨rfl, hT3.trans ((hb4.mono (by omega)).trans (hb5.mono (by omega)))⟩
theorem orderCheck_3 {w : World} {B n c : Nat} {A : Option Addr} (o : OrdV) (h : Ro w B A n c o.r.os) (hB : B ≤ w.heap.size) (c0 : isK o.k = true) (c1 : mayO o = true) (c2 : bareB (clrO o) = true) : Calls Tryz.prog 153 #[.agg #[.int .i64 o.k, .int .i64 o.n, .int .i64 o.m, .int .i64 o.r.k, .int .i64 o.r.pr, .int .i64 o.r.to, .int .i64 o.r.po, .int .i64 o.r.x.v, .int .i64 o.r.x.m, .int .u8 o.r.x.b0, .int .u8 o.r.x.b1, .int .u8 o.r.x.b2, .int .u8 o.r.x.i0, .int .u8 o.r.x.i1, .int .u8 o.r.x.i2, .slice A n c, .int .i64 o.f, .int .i64 o.p, .int .i64 o.t, .int .i64 o.q, .int .i64 o.z]] w fun e w' => e = .returned (.int .i64 (checkO o)) ∧ Below w.heap.size w w' := by
 have hp := Kp.mk (checkO_yes (o := o) ⟨c0, c1, c2⟩)
 have hba := below_alloc w (.cells #[.int .i64 o.k, .int .i64 o.n, .int .i64 o.m, .int .i64 o.r.k, .int .i64 o.r.pr, .int .i64 o.r.to, .int .i64 o.r.po, .int .i64 o.r.x.v, .int .i64 o.r.x.m, .int .u8 o.r.x.b0, .int .u8 o.r.x.b1, .int .u8 o.r.x.b2, .int .u8 o.r.x.i0, .int .u8 o.r.x.i1, .int .u8 o.r.x.i2, .slice A n c, .int .i64 o.f, .int .i64 o.p, .int .i64 o.t, .int .i64 o.q, .int .i64 o.z] 51)
 have hza : (w.alloc (.cells #[.int .i64 o.k, .int .i64 o.n, .int .i64 o.m, .int .i64 o.r.k, .int .i64 o.r.pr, .int .i64 o.r.to, .int .i64 o.r.po, .int .i64 o.r.x.v, .int .i64 o.r.x.m, .int .u8 o.r.x.b0, .int .u8 o.r.x.b1, .int .u8 o.r.x.b2, .int .u8 o.r.x.i0, .int .u8 o.r.x.i1, .int .u8 o.r.x.i2, .slice A n c, .int .i64 o.f, .int .i64 o.p, .int .i64 o.t, .int .i64 o.q, .int .i64 o.z] 51)).heap.size = w.heap.size + 1 := by simp
 have hxa : Vb 51 (w.alloc (.cells #[.int .i64 o.k, .int .i64 o.n, .int .i64 o.m, .int .i64 o.r.k, .int .i64 o.r.pr, .int .i64 o.r.to, .int .i64 o.r.po, .int .i64 o.r.x.v, .int .i64 o.r.x.m, .int .u8 o.r.x.b0, .int .u8 o.r.x.b1, .int .u8 o.r.x.b2, .int .u8 o.r.x.i0, .int .u8 o.r.x.i1, .int .u8 o.r.x.i2, .slice A n c, .int .i64 o.f, .int .i64 o.p, .int .i64 o.t, .int .i64 o.q, .int .i64 o.z] 51)) w.heap.size (ocl o (.slice A n c)) := Vb.new 51 w (ocl o (.slice A n c))
 go_enter Tryz.func153, Tryz.ntmps153
 go_upto_region 1 with fail
 generalize (w.alloc (.cells #[.int .i64 o.k, .int .i64 o.n, .int .i64 o.m, .int .i64 o.r.k, .int .i64 o.r.pr, .int .i64 o.r.to, .int .i64 o.r.po, .int .i64 o.r.x.v, .int .i64 o.r.x.m, .int .u8 o.r.x.b0, .int .u8 o.r.x.b1, .int .u8 o.r.x.b2, .int .u8 o.r.x.i0, .int .u8 o.r.x.i1, .int .u8 o.r.x.i2, .slice A n c, .int .i64 o.f, .int .i64 o.p, .int .i64 o.t, .int .i64 o.q, .int .i64 o.z] 51)) = wa at *
 go_upto_region 2 with (first | (refine wpList_load_vb (vs := ocl o (.slice A n c)) rfl (.tmp 1) rfl rfl hxa rfl agg_order ?_) | (refine wpList_store_new (vs := ocl o (.slice A n c)) rfl (.tmp 3) (.tmp 6) rfl rfl rfl rfl (by omega) rfl agg_own rfl ?_; intro w0 hx0 hbn hz0))
 have hb0 := hba.trans (hbn.mono (by omega))
 have h0 := h.below' hb0 hB
 have hz0' : w0.heap.size = w.heap.size + 2 := by omega
 clear hxa hba hbn
 go_wp2_with fail
 refine (partsOf_any (w.heap.size + 1) w0 o.k hx0.ord.1).mono ?_
 rintro e w1 ⟨Q, m, rfl, hR1, hb1⟩
 have hx1 := hx0.below hb1 (by omega)
 have h1 := h0.below' hb1 (by omega)
 have hz1 := hb1.size
 simp only [c0]
 have hba := below_alloc w1 (.cells #[.slice Q m m, .pointer (ruP o.k (w.heap.size + 1)), .pointer (prP o.k (w.heap.size + 1))] 211)
 have hv2 := Vb.new 211 w1 [.slice Q m m, .pointer (ruP o.k (w.heap.size + 1)), .pointer (prP o.k (w.heap.size + 1))]
 have hx2 := hx1.below hba (by omega)
 have h2 := h1.below' hba (by omega)
 have hR2 := hR1.below hba
 have hz2 : (w1.alloc (.cells #[.slice Q m m, .pointer (ruP o.k (w.heap.size + 1)), .pointer (prP o.k (w.heap.size + 1))] 211)).heap.size = w1.heap.size + 1 := by simp
 have hT2 := hb0.trans ((hb1.mono (by omega)).trans (hba.mono (by omega)))
 go_upto_region 3 with fail
 generalize w1.alloc (.cells #[.slice Q m m, .pointer (ruP o.k (w.heap.size + 1)), .pointer (prP o.k (w.heap.size + 1))] 211) = w2 at *
 obtain ⟨d0, d1, d2⟩ := hv2.c3
 go_wp2_with fail
 refine (mayBe_any hx2 h2 (by omega) hR2).mono ?_
 rintro e w3 ⟨rfl, hb3⟩
 simp only [c1]
 have hx3 := hx2.below hb3 (by omega)
 have h3 := h2.below' hb3 (by omega)
 have hR3 := hR2.below hb3
 have hv3 := hv2.below hb3 (by omega)
 have hT3 := hT2.trans (hb3.mono (by omega))
 have hz3 := hb3.size
 clear d0 d1 d2
 obtain ⟨d0, d1, d2⟩ := hv3.c3
 go_wp2_with fail
 refine (clear_any hx3 (hR3.lower (lo' := w.heap.size + 2) (by omega)) (by omega)).mono ?_
 rintro e w4 ⟨rfl, hx4, hb4⟩
 have hz4 := hb4.size
 have h4 := h3.below' hb4 (by omega)
 obtain ⟨S', n', c', eS, h4'⟩ := clrS_row h4
 rw [eS] at hx4
 go_wp2_with fail
 refine (isBare_any hx4 h4' (by omega)).mono ?_
 rintro e w5 ⟨rfl, hb5⟩
 simp only [c2]
 go_wp2_with fail
 rw [hp.out]
 go_ret
 exact ⟨rfl, hT3.trans ((hb4.mono (by omega)).trans (hb5.mono (by omega)))⟩
theorem orderCheck_any {w : World} {B n c : Nat} {A : Option Addr} (o : OrdV) (h : Ro w B A n c o.r.os) (hB : B ≤ w.heap.size) : Calls Tryz.prog 153 #[.agg #[.int .i64 o.k, .int .i64 o.n, .int .i64 o.m, .int .i64 o.r.k, .int .i64 o.r.pr, .int .i64 o.r.to, .int .i64 o.r.po, .int .i64 o.r.x.v, .int .i64 o.r.x.m, .int .u8 o.r.x.b0, .int .u8 o.r.x.b1, .int .u8 o.r.x.b2, .int .u8 o.r.x.i0, .int .u8 o.r.x.i1, .int .u8 o.r.x.i2, .slice A n c, .int .i64 o.f, .int .i64 o.p, .int .i64 o.t, .int .i64 o.q, .int .i64 o.z]] w fun e w' => e = .returned (.int .i64 (checkO o)) ∧ Below w.heap.size w w' := by
 by_cases c0 : isK o.k = true
 rotate_left
 ·exact orderCheck_0 o h hB  (by simpa using c0)
 by_cases c1 : mayO o = true
 rotate_left
 ·exact orderCheck_1 o h hB c0 (by simpa using c1)
 by_cases c2 : bareB (clrO o) = true
 rotate_left
 ·exact orderCheck_2 o h hB c0 c1 (by simpa using c2)
 exact orderCheck_3 o h hB c0 c1 c2
end Go.Proofs.YtnoflfbcgbhipaaGreat.Oct
