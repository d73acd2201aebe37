/- Contracts of layer 6: an order in memory; what its kind has may be, is cleared, and whether it is bare. -/
import Derived.Test.YteambkehdbffmaaGreatOrdD
import Derived.Test.YteambkehdbffmaaGreatPrbG
namespace Go.Proofs.YteambkehdbffmaaGreat.Oct
open Go.RowKit
set_option linter.unusedVariables false
set_option linter.unusedSimpArgs false

/-- The cells of an order. -/
def ocl (o : OrdV) (S : Value) : List Value := [.int .i64 o.k, .int .i64 o.n, .int .i64 o.m, .int .i64 o.r.k, .int .i64 o.r.pr, .int .i64 o.r.to, .int .i64 o.r.po, .int .i64 o.r.x.v, .int .i64 o.r.x.m, .int .u8 o.r.x.b0, .int .u8 o.r.x.b1, .int .u8 o.r.x.b2, .int .u8 o.r.x.i0, .int .u8 o.r.x.i1, .int .u8 o.r.x.i2, S, .int .i64 o.f, .int .i64 o.p, .int .i64 o.t, .int .i64 o.q, .int .i64 o.z]
theorem Vb.ord {T : TypeId} {w : World} {g : Nat} {o : OrdV} {S : Value} (h : Vb T w g (ocl o S)) : w.cell? ⟨g, 0, none⟩ = some (.int .i64 o.k) ∧ w.cell? ⟨g, 1, none⟩ = some (.int .i64 o.n) ∧ w.cell? ⟨g, 2, none⟩ = some (.int .i64 o.m) ∧ w.cell? ⟨g, 3, none⟩ = some (.int .i64 o.r.k) ∧ w.cell? ⟨g, 4, none⟩ = some (.int .i64 o.r.pr) ∧ w.cell? ⟨g, 5, none⟩ = some (.int .i64 o.r.to) ∧ w.cell? ⟨g, 6, none⟩ = some (.int .i64 o.r.po) ∧ w.cell? ⟨g, 7, none⟩ = some (.int .i64 o.r.x.v) ∧ w.cell? ⟨g, 8, none⟩ = some (.int .i64 o.r.x.m) ∧ w.cell? ⟨g, 9, none⟩ = some (.int .u8 o.r.x.b0) ∧ w.cell? ⟨g, 10, none⟩ = some (.int .u8 o.r.x.b1) ∧ w.cell? ⟨g, 11, none⟩ = some (.int .u8 o.r.x.b2) ∧ w.cell? ⟨g, 12, none⟩ = some (.int .u8 o.r.x.i0) ∧ w.cell? ⟨g, 13, none⟩ = some (.int .u8 o.r.x.i1) ∧ w.cell? ⟨g, 14, none⟩ = some (.int .u8 o.r.x.i2) ∧ w.cell? ⟨g, 15, none⟩ = some (S) ∧ w.cell? ⟨g, 16, none⟩ = some (.int .i64 o.f) ∧ w.cell? ⟨g, 17, none⟩ = some (.int .i64 o.p) ∧ w.cell? ⟨g, 18, none⟩ = some (.int .i64 o.t) ∧ w.cell? ⟨g, 19, none⟩ = some (.int .i64 o.q) ∧ w.cell? ⟨g, 20, none⟩ = some (.int .i64 o.z) := h.c21
/-- The number that stands at a place. -/
def numAt (o : OrdV) (i : Nat) : Int := if i = 1 then o.n else o.m
def linkB (f p t q z : Int) : Bool := (checkQ f p t q z == 0) && (t != 0)
def mayO (o : OrdV) : Bool :=
  if o.k = 2 ∨ o.k = 3 then checkR o.r == 0 else if o.k = 8 then linkB o.f o.p o.t o.q o.z else (numsOf o.k).all fun u => inB (numAt o u.at_) u.lo u.hi
def bareB (o : OrdV) : Bool := (o.n == 0) && ((o.m == 0) && (noneBo o.r && eqQB o.f o.p o.t o.q o.z 0 0 0 0 0))

set_option maxRecDepth 100000 in
set_option maxHeartbeats 1600000 in
theorem isLink_any (f p t q z : Int) (w : World) : Calls Tryz.prog 71 #[.agg #[.int .i64 f, .int .i64 p, .int .i64 t, .int .i64 q, .int .i64 z]] w fun e w' => e = .returned (.bool (linkB f p t q z)) ∧ Below w.heap.size w w' := by
  by_cases c0 : (checkQ f p t q z == 0) = true
  rotate_left
  · have c0' : (checkQ f p t q z == 0) = false := by simpa using c0
    clear c0
    have hp := Kp.mk (show linkB f p t q z = false by unfold linkB; rw [c0']; rfl)
    go_enter Tryz.func71, Tryz.ntmps71
    go_wp2_with fail
    refine (check_any f p t q z _).mono ?_
    rintro e w1 ⟨rfl, hb1⟩
    have hv := (Vb.new 34 w [.int .i64 f, .int .i64 p, .int .i64 t, .int .i64 q, .int .i64 z]).below hb1 (by simp)
    obtain ⟨d0, d1, d2, d3, d4⟩ := hv.c5
    have hb0 : Below w.heap.size w w1 := (below_alloc w (.cells #[.int .i64 f, .int .i64 p, .int .i64 t, .int .i64 q, .int .i64 z] 34)).trans (hb1.mono (by simp))
    clear hv hb1
    go_wp2_with fail
    rw [hp.out]
    go_ret
    exact ⟨rfl, hb0⟩
  by_cases c1 : (t != 0) = true
  rotate_left
  · have c1' : (t != 0) = false := by simpa using c1
    clear c1
    have hp := Kp.mk (show linkB f p t q z = false by unfold linkB; rw [c0, c1']; rfl)
    go_enter Tryz.func71, Tryz.ntmps71
    go_wp2_with fail
    refine (check_any f p t q z _).mono ?_
    rintro e w1 ⟨rfl, hb1⟩
    have hv := (Vb.new 34 w [.int .i64 f, .int .i64 p, .int .i64 t, .int .i64 q, .int .i64 z]).below hb1 (by simp)
    obtain ⟨d0, d1, d2, d3, d4⟩ := hv.c5
    have hb0 : Below w.heap.size w w1 := (below_alloc w (.cells #[.int .i64 f, .int .i64 p, .int .i64 t, .int .i64 q, .int .i64 z] 34)).trans (hb1.mono (by simp))
    clear hv hb1
    go_wp2_with fail
    rw [hp.out]
    go_ret
    exact ⟨rfl, hb0⟩
  have hp := Kp.mk (show linkB f p t q z = true by unfold linkB; rw [c0, c1]; rfl)
  go_enter Tryz.func71, Tryz.ntmps71
  go_wp2_with fail
  refine (check_any f p t q z _).mono ?_
  rintro e w1 ⟨rfl, hb1⟩
  have hv := (Vb.new 34 w [.int .i64 f, .int .i64 p, .int .i64 t, .int .i64 q, .int .i64 z]).below hb1 (by simp)
  obtain ⟨d0, d1, d2, d3, d4⟩ := hv.c5
  have hb0 : Below w.heap.size w w1 := (below_alloc w (.cells #[.int .i64 f, .int .i64 p, .int .i64 t, .int .i64 q, .int .i64 z] 34)).trans (hb1.mono (by simp))
  clear hv hb1
  go_wp2_with fail
  rw [hp.out]
  go_ret
  exact ⟨rfl, hb0⟩
theorem inOrd_same (n a b : Int) (w : World) : Calls Tryz.prog 41 #[.int .i64 n, .int .i64 a, .int .i64 b] w fun e w' => e = .returned (.bool (inB n a b)) ∧ w' = w := (inOrd_any n a b w).mono (fun _ _ ⟨h1, h2⟩ => ⟨h1, h2.symm⟩)
set_option maxRecDepth 100000 in
set_option maxHeartbeats 1600000 in
theorem mb_none {w : World} (A : Option Addr) : Calls Tryz.prog 33 #[.agg #[.slice A 0 0, .pointer none, .pointer none]] w fun e w' => e = .returned (.bool (true)) ∧ Below w.heap.size w w' := by
  go_enter Tryz.func33, Tryz.ntmps33
  go_wp2_with fail
  refine wp_loop_rounds (0 + 1) ?_
  rw [rounds_succ]
  go_wp2_with fail
  go_ret
  exact ⟨rfl, below_alloc w _⟩
set_option maxRecDepth 100000 in
set_option maxHeartbeats 1600000 in
theorem mb_rule {w : World} {B g n c : Nat} {S : Option Addr} (A : Option Addr) (r : RuleV) (h : Ro w B S n c r.os) (hB : B ≤ w.heap.size) (hg : g < w.heap.size) (hx : w.cell? ⟨g, 3, none⟩ = some (.int .i64 r.k) ∧ w.cell? ⟨g, 4, none⟩ = some (.int .i64 r.pr) ∧ w.cell? ⟨g, 5, none⟩ = some (.int .i64 r.to) ∧ w.cell? ⟨g, 6, none⟩ = some (.int .i64 r.po) ∧ w.cell? ⟨g, 7, none⟩ = some (.int .i64 r.x.v) ∧ w.cell? ⟨g, 8, none⟩ = some (.int .i64 r.x.m) ∧ w.cell? ⟨g, 9, none⟩ = some (.int .u8 r.x.b0) ∧ w.cell? ⟨g, 10, none⟩ = some (.int .u8 r.x.b1) ∧ w.cell? ⟨g, 11, none⟩ = some (.int .u8 r.x.b2) ∧ w.cell? ⟨g, 12, none⟩ = some (.int .u8 r.x.i0) ∧ w.cell? ⟨g, 13, none⟩ = some (.int .u8 r.x.i1) ∧ w.cell? ⟨g, 14, none⟩ = some (.int .u8 r.x.i2) ∧ w.cell? ⟨g, 15, none⟩ = some (.slice S n c)) : Calls Tryz.prog 33 #[.agg #[.slice A 0 0, .pointer (some ⟨g, 3, none⟩), .pointer none]] w fun e w' => e = .returned (.bool (checkR r == 0)) ∧ Below w.heap.size w w' := by
  have hb0 := below_alloc w (.cells #[.slice A 0 0, .pointer (some ⟨g, 3, none⟩), .pointer none] 65)
  have HC := Kp.mk (ruleO_any (w := w.alloc (.cells #[.slice A 0 0, .pointer (some ⟨g, 3, none⟩), .pointer none] 65)) r (h.below' hb0 hB) (by simp; omega))
  obtain ⟨d0, d1, d2, d3, d4, d5, d6, d7, d8, d9, d10, d11, d12⟩ := hx
  have e0 := cell_below d0 hg hb0
  have e1 := cell_below d1 hg hb0
  have e2 := cell_below d2 hg hb0
  have e3 := cell_below d3 hg hb0
  have e4 := cell_below d4 hg hb0
  have e5 := cell_below d5 hg hb0
  have e6 := cell_below d6 hg hb0
  have e7 := cell_below d7 hg hb0
  have e8 := cell_below d8 hg hb0
  have e9 := cell_below d9 hg hb0
  have e10 := cell_below d10 hg hb0
  have e11 := cell_below d11 hg hb0
  have e12 := cell_below d12 hg hb0
  clear hb0 d0 d1 d2 d3 d4 d5 d6 d7 d8 d9 d10 d11 d12
  by_cases c0 : (checkR r == 0) = true
  · have n0 : (checkR r != 0) = false := by rw [bne, c0]; rfl
    have hp := Kp.mk c0
    clear c0
    go_enter Tryz.func33, Tryz.ntmps33
    go_wp2_with fail
    refine wp_loop_rounds (0 + 1) ?_
    rw [rounds_succ]
    go_wp2_with fail
    refine HC.out.mono ?_
    rintro e w1 ⟨rfl, hb1⟩
    have hv := (Vb.new 65 w [.slice A 0 0, .pointer (some ⟨g, 3, none⟩), .pointer none]).below hb1 (by simp)
    obtain ⟨f0, f1, f2⟩ := hv.c3
    have hb2 : Below w.heap.size w w1 := (below_alloc w (.cells #[.slice A 0 0, .pointer (some ⟨g, 3, none⟩), .pointer none] 65)).trans (hb1.mono (by simp))
    clear hv hb1 e0 e1 e2 e3 e4 e5 e6 e7 e8 e9 e10 e11 e12
    go_wp2_with fail
    rw [hp.out]
    go_ret
    exact ⟨rfl, hb2⟩
  · have c0' : (checkR r == 0) = false := by simpa using c0
    clear c0
    have n0 : (checkR r != 0) = true := by rw [bne, c0']; rfl
    have hp := Kp.mk c0'
    clear c0'
    go_enter Tryz.func33, Tryz.ntmps33
    go_wp2_with fail
    refine wp_loop_rounds (0 + 1) ?_
    rw [rounds_succ]
    go_wp2_with fail
    refine HC.out.mono ?_
    rintro e w1 ⟨rfl, hb1⟩
    have hv := (Vb.new 65 w [.slice A 0 0, .pointer (some ⟨g, 3, none⟩), .pointer none]).below hb1 (by simp)
    obtain ⟨f0, f1, f2⟩ := hv.c3
    have hb2 : Below w.heap.size w w1 := (below_alloc w (.cells #[.slice A 0 0, .pointer (some ⟨g, 3, none⟩), .pointer none] 65)).trans (hb1.mono (by simp))
    clear hv hb1 e0 e1 e2 e3 e4 e5 e6 e7 e8 e9 e10 e11 e12
    go_wp2_with fail
    rw [hp.out]
    go_ret
    exact ⟨rfl, hb2⟩
set_option maxRecDepth 100000 in
set_option maxHeartbeats 1600000 in
theorem mb_link {w : World} {g : Nat} (A : Option Addr) (f p t q z : Int) (hg : g < w.heap.size) (hx : w.cell? ⟨g, 16, none⟩ = some (.int .i64 f) ∧ w.cell? ⟨g, 17, none⟩ = some (.int .i64 p) ∧ w.cell? ⟨g, 18, none⟩ = some (.int .i64 t) ∧ w.cell? ⟨g, 19, none⟩ = some (.int .i64 q) ∧ w.cell? ⟨g, 20, none⟩ = some (.int .i64 z)) : Calls Tryz.prog 33 #[.agg #[.slice A 0 0, .pointer none, .pointer (some ⟨g, 16, none⟩)]] w fun e w' => e = .returned (.bool (linkB f p t q z)) ∧ Below w.heap.size w w' := by
  have hb0 := below_alloc w (.cells #[.slice A 0 0, .pointer none, .pointer (some ⟨g, 16, none⟩)] 65)
  obtain ⟨d0, d1, d2, d3, d4⟩ := hx
  have e0 := cell_below d0 hg hb0
  have e1 := cell_below d1 hg hb0
  have e2 := cell_below d2 hg hb0
  have e3 := cell_below d3 hg hb0
  have e4 := cell_below d4 hg hb0
  clear d0 d1 d2 d3 d4
  go_enter Tryz.func33, Tryz.ntmps33
  go_wp2_with fail
  refine wp_loop_rounds (0 + 1) ?_
  rw [rounds_succ]
  go_wp2_with fail
  refine (isLink_any f p t q z _).mono ?_
  rintro e w1 ⟨rfl, hb1⟩
  go_wp2_with fail
  go_ret
  exact ⟨rfl, hb0.trans (hb1.mono (by simp))⟩
set_option maxRecDepth 100000 in
set_option maxHeartbeats 1600000 in
theorem mb_1 {w : World} {lo g m : Nat} {A : Option Addr} {u : NumV} (x : Int) (hR : Rn w lo g A m [u]) (hg : g < w.heap.size) (hu : w.cell? ⟨g, u.at_, none⟩ = some (.int .i64 x)) : Calls Tryz.prog 33 #[.agg #[.slice A m m, .pointer none, .pointer none]] w fun e w' => e = .returned (.bool (inB x u.lo u.hi)) ∧ Below w.heap.size w w' := by
  obtain ⟨hl, _, hc⟩ := hR
  simp at hl
  subst hl
  obtain ⟨b, rfl, _, hbw, hc⟩ := hc (by omega)
  obtain ⟨a00, a01, a02, a03⟩ := hc 0 u rfl
  simp only [Nat.zero_mul, Nat.zero_add, Nat.one_mul, Nat.reduceAdd] at a00 a01 a02 a03
  clear hc
  by_cases c0 : inB x u.lo u.hi = true
  rotate_left
  · have c0' : inB x u.lo u.hi = false := by simpa using c0
    clear c0
    have hp := Kp.mk c0'
    have hb1 : Below (w.heap.size + 1) (w.alloc (.cells #[.slice (some ⟨b, 0, none⟩) 1 1, .pointer none, .pointer none] 65)) (w.alloc (.cells #[.slice (some ⟨b, 0, none⟩) 1 1, .pointer none, .pointer none] 65)) := Below.refl _ _
    have hbw0 := below_alloc w (.cells #[.slice (some ⟨b, 0, none⟩) 1 1, .pointer none, .pointer none] 65)
    have hvb := Vb.new 65 w [.slice (some ⟨b, 0, none⟩) 1 1, .pointer none, .pointer none]
    have FU : Kp (∀ w', Below (w.heap.size + 1) (w.alloc (.cells #[.slice (some ⟨b, 0, none⟩) 1 1, .pointer none, .pointer none] 65)) w' → w'.cell? ⟨w.heap.size, 1, none⟩ = some (.pointer none) ∧ w'.cell? ⟨w.heap.size, 2, none⟩ = some (.pointer none) ∧ w'.cell? ⟨g, u.at_, none⟩ = some (.int .i64 x) ∧ w'.cell? ⟨b, 0, none⟩ = some (.pointer (some ⟨g, u.at_, none⟩)) ∧ w'.cell? ⟨b, 1, none⟩ = some (.int .i64 u.s) ∧ w'.cell? ⟨b, 2, none⟩ = some (.int .i64 u.lo) ∧ w'.cell? ⟨b, 3, none⟩ = some (.int .i64 u.hi)) := Kp.mk (fun w' hb0 => by have hb := hbw0.trans (hb0.mono (by omega)); have hvv := hvb.below hb0 (by omega); exact ⟨hvv.cell 1 rfl, hvv.cell 2 rfl, cell_below hu hg hb, cell_below a00 hbw hb, cell_below a01 hbw hb, cell_below a02 hbw hb, cell_below a03 hbw hb⟩)
    clear hu a00 a01 a02 a03
    go_enter Tryz.func33, Tryz.ntmps33
    go_wp2_with fail
    refine wp_loop_rounds (0 + 1) ?_
    obtain ⟨f1, f2, ku, b00, b01, b02, b03⟩ := FU.out _ hb1
    rw [rounds_succ]
    have hb2 := hb1.trans ((below_alloc (w.alloc (.cells #[.slice (some ⟨b, 0, none⟩) 1 1, .pointer none, .pointer none] 65)) (.cells #[.pointer (some ⟨g, u.at_, none⟩), .int .i64 u.s, .int .i64 u.lo, .int .i64 u.hi] 97)).mono (by have := hb1.size; first | omega | (simp at this ⊢; done) | (simp at this ⊢; omega)))
    obtain ⟨r1, r2, qu, m00, m01, m02, m03⟩ := FU.out _ hb2
    go_wp2_with fail
    go_quiet ((go_at_call 41; exact Calls.quiet_of_same (inOrd_same _ _ _ _)))
    have hq0 := below_drewN hb2 nq
    generalize ((w.alloc (.cells #[.slice (some ⟨b, 0, none⟩) 1 1, .pointer none, .pointer none] 65)).alloc (.cells #[.pointer (some ⟨g, u.at_, none⟩), .int .i64 u.s, .int .i64 u.lo, .int .i64 u.hi] 97)).drewN nq = wq0 at *
    go_wp2_with fail
    clear f1 f2 ku b00 b01 b02 b03 r1 r2 qu m00 m01 m02 m03
    rw [hp.out]
    go_ret
    exact ⟨rfl, hbw0.trans (hq0.mono (by omega))⟩
  have hp := Kp.mk c0
  have hb1 : Below (w.heap.size + 1) (w.alloc (.cells #[.slice (some ⟨b, 0, none⟩) 1 1, .pointer none, .pointer none] 65)) (w.alloc (.cells #[.slice (some ⟨b, 0, none⟩) 1 1, .pointer none, .pointer none] 65)) := Below.refl _ _
  have hbw0 := below_alloc w (.cells #[.slice (some ⟨b, 0, none⟩) 1 1, .pointer none, .pointer none] 65)
  have hvb := Vb.new 65 w [.slice (some ⟨b, 0, none⟩) 1 1, .pointer none, .pointer none]
  have FU : Kp (∀ w', Below (w.heap.size + 1) (w.alloc (.cells #[.slice (some ⟨b, 0, none⟩) 1 1, .pointer none, .pointer none] 65)) w' → w'.cell? ⟨w.heap.size, 1, none⟩ = some (.pointer none) ∧ w'.cell? ⟨w.heap.size, 2, none⟩ = some (.pointer none) ∧ w'.cell? ⟨g, u.at_, none⟩ = some (.int .i64 x) ∧ w'.cell? ⟨b, 0, none⟩ = some (.pointer (some ⟨g, u.at_, none⟩)) ∧ w'.cell? ⟨b, 1, none⟩ = some (.int .i64 u.s) ∧ w'.cell? ⟨b, 2, none⟩ = some (.int .i64 u.lo) ∧ w'.cell? ⟨b, 3, none⟩ = some (.int .i64 u.hi)) := Kp.mk (fun w' hb0 => by have hb := hbw0.trans (hb0.mono (by omega)); have hvv := hvb.below hb0 (by omega); exact ⟨hvv.cell 1 rfl, hvv.cell 2 rfl, cell_below hu hg hb, cell_below a00 hbw hb, cell_below a01 hbw hb, cell_below a02 hbw hb, cell_below a03 hbw hb⟩)
  clear hu a00 a01 a02 a03
  go_enter Tryz.func33, Tryz.ntmps33
  go_wp2_with fail
  refine wp_loop_rounds (1 + 1) ?_
  obtain ⟨f1, f2, ku, b00, b01, b02, b03⟩ := FU.out _ hb1
  rw [rounds_succ]
  have hb2 := hb1.trans ((below_alloc (w.alloc (.cells #[.slice (some ⟨b, 0, none⟩) 1 1, .pointer none, .pointer none] 65)) (.cells #[.pointer (some ⟨g, u.at_, none⟩), .int .i64 u.s, .int .i64 u.lo, .int .i64 u.hi] 97)).mono (by have := hb1.size; first | omega | (simp at this ⊢; done) | (simp at this ⊢; omega)))
  obtain ⟨r1, r2, qu, m00, m01, m02, m03⟩ := FU.out _ hb2
  go_wp2_with fail
  go_quiet ((go_at_call 41; exact Calls.quiet_of_same (inOrd_same _ _ _ _)))
  have hq0 := below_drewN hb2 nq
  generalize ((w.alloc (.cells #[.slice (some ⟨b, 0, none⟩) 1 1, .pointer none, .pointer none] 65)).alloc (.cells #[.pointer (some ⟨g, u.at_, none⟩), .int .i64 u.s, .int .i64 u.lo, .int .i64 u.hi] 97)).drewN nq = wq0 at *
  go_wp2_with fail
  clear f1 f2 ku b00 b01 b02 b03 r1 r2 qu m00 m01 m02 m03
  obtain ⟨f1, f2, ku, b00, b01, b02, b03⟩ := FU.out _ hq0
  rw [rounds_succ]
  go_wp2_with fail
  rw [hp.out]
  go_ret
  exact ⟨rfl, hbw0.trans (hq0.mono (by omega))⟩
set_option maxRecDepth 100000 in
set_option maxHeartbeats 1600000 in
theorem mb_2 {w : World} {lo g m : Nat} {A : Option Addr} {u v : NumV} (x y : Int) (hR : Rn w lo g A m [u, v]) (hg : g < w.heap.size) (hu : w.cell? ⟨g, u.at_, none⟩ = some (.int .i64 x)) (hv : w.cell? ⟨g, v.at_, none⟩ = some (.int .i64 y)) : Calls Tryz.prog 33 #[.agg #[.slice A m m, .pointer none, .pointer none]] w fun e w' => e = .returned (.bool (inB x u.lo u.hi && inB y v.lo v.hi)) ∧ Below w.heap.size w w' := by
  obtain ⟨hl, _, hc⟩ := hR
  simp at hl
  subst hl
  obtain ⟨b, rfl, _, hbw, hc⟩ := hc (by omega)
  obtain ⟨a00, a01, a02, a03⟩ := hc 0 u rfl
  simp only [Nat.zero_mul, Nat.zero_add, Nat.one_mul, Nat.reduceAdd] at a00 a01 a02 a03
  obtain ⟨a10, a11, a12, a13⟩ := hc 1 v rfl
  simp only [Nat.zero_mul, Nat.zero_add, Nat.one_mul, Nat.reduceAdd] at a10 a11 a12 a13
  clear hc
  by_cases c0 : inB x u.lo u.hi = true
  rotate_left
  · have c0' : inB x u.lo u.hi = false := by simpa using c0
    clear c0
    have hp := Kp.mk (show (inB x u.lo u.hi && inB y v.lo v.hi) = false by rw [c0']; rfl)
    have hb1 : Below (w.heap.size + 1) (w.alloc (.cells #[.slice (some ⟨b, 0, none⟩) 2 2, .pointer none, .pointer none] 65)) (w.alloc (.cells #[.slice (some ⟨b, 0, none⟩) 2 2, .pointer none, .pointer none] 65)) := Below.refl _ _
    have hbw0 := below_alloc w (.cells #[.slice (some ⟨b, 0, none⟩) 2 2, .pointer none, .pointer none] 65)
    have hvb := Vb.new 65 w [.slice (some ⟨b, 0, none⟩) 2 2, .pointer none, .pointer none]
    have FU : Kp (∀ w', Below (w.heap.size + 1) (w.alloc (.cells #[.slice (some ⟨b, 0, none⟩) 2 2, .pointer none, .pointer none] 65)) w' → w'.cell? ⟨w.heap.size, 1, none⟩ = some (.pointer none) ∧ w'.cell? ⟨w.heap.size, 2, none⟩ = some (.pointer none) ∧ w'.cell? ⟨g, u.at_, none⟩ = some (.int .i64 x) ∧ w'.cell? ⟨g, v.at_, none⟩ = some (.int .i64 y) ∧ w'.cell? ⟨b, 0, none⟩ = some (.pointer (some ⟨g, u.at_, none⟩)) ∧ w'.cell? ⟨b, 1, none⟩ = some (.int .i64 u.s) ∧ w'.cell? ⟨b, 2, none⟩ = some (.int .i64 u.lo) ∧ w'.cell? ⟨b, 3, none⟩ = some (.int .i64 u.hi) ∧ w'.cell? ⟨b, 4, none⟩ = some (.pointer (some ⟨g, v.at_, none⟩)) ∧ w'.cell? ⟨b, 5, none⟩ = some (.int .i64 v.s) ∧ w'.cell? ⟨b, 6, none⟩ = some (.int .i64 v.lo) ∧ w'.cell? ⟨b, 7, none⟩ = some (.int .i64 v.hi)) := Kp.mk (fun w' hb0 => by have hb := hbw0.trans (hb0.mono (by omega)); have hvv := hvb.below hb0 (by omega); exact ⟨hvv.cell 1 rfl, hvv.cell 2 rfl, cell_below hu hg hb, cell_below hv hg hb, cell_below a00 hbw hb, cell_below a01 hbw hb, cell_below a02 hbw hb, cell_below a03 hbw hb, cell_below a10 hbw hb, cell_below a11 hbw hb, cell_below a12 hbw hb, cell_below a13 hbw hb⟩)
    clear hu hv a00 a01 a02 a03 a10 a11 a12 a13
    go_enter Tryz.func33, Tryz.ntmps33
    go_wp2_with fail
    refine wp_loop_rounds (0 + 1) ?_
    obtain ⟨f1, f2, ku, kv, b00, b01, b02, b03, b10, b11, b12, b13⟩ := FU.out _ hb1
    rw [rounds_succ]
    have hb2 := hb1.trans ((below_alloc (w.alloc (.cells #[.slice (some ⟨b, 0, none⟩) 2 2, .pointer none, .pointer none] 65)) (.cells #[.pointer (some ⟨g, u.at_, none⟩), .int .i64 u.s, .int .i64 u.lo, .int .i64 u.hi] 97)).mono (by have := hb1.size; first | omega | (simp at this ⊢; done) | (simp at this ⊢; omega)))
    obtain ⟨r1, r2, qu, qv, m00, m01, m02, m03, m10, m11, m12, m13⟩ := FU.out _ hb2
    go_wp2_with fail
    go_quiet ((go_at_call 41; exact Calls.quiet_of_same (inOrd_same _ _ _ _)))
    have hq0 := below_drewN hb2 nq
    generalize ((w.alloc (.cells #[.slice (some ⟨b, 0, none⟩) 2 2, .pointer none, .pointer none] 65)).alloc (.cells #[.pointer (some ⟨g, u.at_, none⟩), .int .i64 u.s, .int .i64 u.lo, .int .i64 u.hi] 97)).drewN nq = wq0 at *
    go_wp2_with fail
    clear f1 f2 ku kv b00 b01 b02 b03 b10 b11 b12 b13 r1 r2 qu qv m00 m01 m02 m03 m10 m11 m12 m13
    rw [hp.out]
    go_ret
    exact ⟨rfl, hbw0.trans (hq0.mono (by omega))⟩
  by_cases c1 : inB y v.lo v.hi = true
  rotate_left
  · have c1' : inB y v.lo v.hi = false := by simpa using c1
    clear c1
    have hp := Kp.mk (show (inB x u.lo u.hi && inB y v.lo v.hi) = false by rw [c0, c1']; rfl)
    have hb1 : Below (w.heap.size + 1) (w.alloc (.cells #[.slice (some ⟨b, 0, none⟩) 2 2, .pointer none, .pointer none] 65)) (w.alloc (.cells #[.slice (some ⟨b, 0, none⟩) 2 2, .pointer none, .pointer none] 65)) := Below.refl _ _
    have hbw0 := below_alloc w (.cells #[.slice (some ⟨b, 0, none⟩) 2 2, .pointer none, .pointer none] 65)
    have hvb := Vb.new 65 w [.slice (some ⟨b, 0, none⟩) 2 2, .pointer none, .pointer none]
    have FU : Kp (∀ w', Below (w.heap.size + 1) (w.alloc (.cells #[.slice (some ⟨b, 0, none⟩) 2 2, .pointer none, .pointer none] 65)) w' → w'.cell? ⟨w.heap.size, 1, none⟩ = some (.pointer none) ∧ w'.cell? ⟨w.heap.size, 2, none⟩ = some (.pointer none) ∧ w'.cell? ⟨g, u.at_, none⟩ = some (.int .i64 x) ∧ w'.cell? ⟨g, v.at_, none⟩ = some (.int .i64 y) ∧ w'.cell? ⟨b, 0, none⟩ = some (.pointer (some ⟨g, u.at_, none⟩)) ∧ w'.cell? ⟨b, 1, none⟩ = some (.int .i64 u.s) ∧ w'.cell? ⟨b, 2, none⟩ = some (.int .i64 u.lo) ∧ w'.cell? ⟨b, 3, none⟩ = some (.int .i64 u.hi) ∧ w'.cell? ⟨b, 4, none⟩ = some (.pointer (some ⟨g, v.at_, none⟩)) ∧ w'.cell? ⟨b, 5, none⟩ = some (.int .i64 v.s) ∧ w'.cell? ⟨b, 6, none⟩ = some (.int .i64 v.lo) ∧ w'.cell? ⟨b, 7, none⟩ = some (.int .i64 v.hi)) := Kp.mk (fun w' hb0 => by have hb := hbw0.trans (hb0.mono (by omega)); have hvv := hvb.below hb0 (by omega); exact ⟨hvv.cell 1 rfl, hvv.cell 2 rfl, cell_below hu hg hb, cell_below hv hg hb, cell_below a00 hbw hb, cell_below a01 hbw hb, cell_below a02 hbw hb, cell_below a03 hbw hb, cell_below a10 hbw hb, cell_below a11 hbw hb, cell_below a12 hbw hb, cell_below a13 hbw hb⟩)
    clear hu hv a00 a01 a02 a03 a10 a11 a12 a13
    go_enter Tryz.func33, Tryz.ntmps33
    go_wp2_with fail
    refine wp_loop_rounds (1 + 1) ?_
    obtain ⟨f1, f2, ku, kv, b00, b01, b02, b03, b10, b11, b12, b13⟩ := FU.out _ hb1
    rw [rounds_succ]
    have hb2 := hb1.trans ((below_alloc (w.alloc (.cells #[.slice (some ⟨b, 0, none⟩) 2 2, .pointer none, .pointer none] 65)) (.cells #[.pointer (some ⟨g, u.at_, none⟩), .int .i64 u.s, .int .i64 u.lo, .int .i64 u.hi] 97)).mono (by have := hb1.size; first | omega | (simp at this ⊢; done) | (simp at this ⊢; omega)))
    obtain ⟨r1, r2, qu, qv, m00, m01, m02, m03, m10, m11, m12, m13⟩ := FU.out _ hb2
    go_wp2_with fail
    go_quiet ((go_at_call 41; exact Calls.quiet_of_same (inOrd_same _ _ _ _)))
    have hq0 := below_drewN hb2 nq
    generalize ((w.alloc (.cells #[.slice (some ⟨b, 0, none⟩) 2 2, .pointer none, .pointer none] 65)).alloc (.cells #[.pointer (some ⟨g, u.at_, none⟩), .int .i64 u.s, .int .i64 u.lo, .int .i64 u.hi] 97)).drewN nq = wq0 at *
    go_wp2_with fail
    clear f1 f2 ku kv b00 b01 b02 b03 b10 b11 b12 b13 r1 r2 qu qv m00 m01 m02 m03 m10 m11 m12 m13
    obtain ⟨f1, f2, ku, kv, b00, b01, b02, b03, b10, b11, b12, b13⟩ := FU.out _ hq0
    rw [rounds_succ]
    have hb3 := hq0.trans ((below_alloc wq0 (.cells #[.pointer (some ⟨g, v.at_, none⟩), .int .i64 v.s, .int .i64 v.lo, .int .i64 v.hi] 97)).mono (by have := hq0.size; first | omega | (simp at this ⊢; done) | (simp at this ⊢; omega)))
    obtain ⟨r1, r2, qu, qv, m00, m01, m02, m03, m10, m11, m12, m13⟩ := FU.out _ hb3
    go_wp2_with fail
    go_quiet ((go_at_call 41; exact Calls.quiet_of_same (inOrd_same _ _ _ _)))
    have hq1 := below_drewN hb3 nq
    generalize (wq0.alloc (.cells #[.pointer (some ⟨g, v.at_, none⟩), .int .i64 v.s, .int .i64 v.lo, .int .i64 v.hi] 97)).drewN nq = wq1 at *
    go_wp2_with fail
    clear f1 f2 ku kv b00 b01 b02 b03 b10 b11 b12 b13 r1 r2 qu qv m00 m01 m02 m03 m10 m11 m12 m13
    rw [hp.out]
    go_ret
    exact ⟨rfl, hbw0.trans (hq1.mono (by omega))⟩
  have hp := Kp.mk (show (inB x u.lo u.hi && inB y v.lo v.hi) = true by rw [c0, c1]; rfl)
  have hb1 : Below (w.heap.size + 1) (w.alloc (.cells #[.slice (some ⟨b, 0, none⟩) 2 2, .pointer none, .pointer none] 65)) (w.alloc (.cells #[.slice (some ⟨b, 0, none⟩) 2 2, .pointer none, .pointer none] 65)) := Below.refl _ _
  have hbw0 := below_alloc w (.cells #[.slice (some ⟨b, 0, none⟩) 2 2, .pointer none, .pointer none] 65)
  have hvb := Vb.new 65 w [.slice (some ⟨b, 0, none⟩) 2 2, .pointer none, .pointer none]
  have FU : Kp (∀ w', Below (w.heap.size + 1) (w.alloc (.cells #[.slice (some ⟨b, 0, none⟩) 2 2, .pointer none, .pointer none] 65)) w' → w'.cell? ⟨w.heap.size, 1, none⟩ = some (.pointer none) ∧ w'.cell? ⟨w.heap.size, 2, none⟩ = some (.pointer none) ∧ w'.cell? ⟨g, u.at_, none⟩ = some (.int .i64 x) ∧ w'.cell? ⟨g, v.at_, none⟩ = some (.int .i64 y) ∧ w'.cell? ⟨b, 0, none⟩ = some (.pointer (some ⟨g, u.at_, none⟩)) ∧ w'.cell? ⟨b, 1, none⟩ = some (.int .i64 u.s) ∧ w'.cell? ⟨b, 2, none⟩ = some (.int .i64 u.lo) ∧ w'.cell? ⟨b, 3, none⟩ = some (.int .i64 u.hi) ∧ w'.cell? ⟨b, 4, none⟩ = some (.pointer (some ⟨g, v.at_, none⟩)) ∧ w'.cell? ⟨b, 5, none⟩ = some (.int .i64 v.s) ∧ w'.cell? ⟨b, 6, none⟩ = some (.int .i64 v.lo) ∧ w'.cell? ⟨b, 7, none⟩ = some (.int .i64 v.hi)) := Kp.mk (fun w' hb0 => by have hb := hbw0.trans (hb0.mono (by omega)); have hvv := hvb.below hb0 (by omega); exact ⟨hvv.cell 1 rfl, hvv.cell 2 rfl, cell_below hu hg hb, cell_below hv hg hb, cell_below a00 hbw hb, cell_below a01 hbw hb, cell_below a02 hbw hb, cell_below a03 hbw hb, cell_below a10 hbw hb, cell_below a11 hbw hb, cell_below a12 hbw hb, cell_below a13 hbw hb⟩)
  clear hu hv a00 a01 a02 a03 a10 a11 a12 a13
  go_enter Tryz.func33, Tryz.ntmps33
  go_wp2_with fail
  refine wp_loop_rounds (2 + 1) ?_
  obtain ⟨f1, f2, ku, kv, b00, b01, b02, b03, b10, b11, b12, b13⟩ := FU.out _ hb1
  rw [rounds_succ]
  have hb2 := hb1.trans ((below_alloc (w.alloc (.cells #[.slice (some ⟨b, 0, none⟩) 2 2, .pointer none, .pointer none] 65)) (.cells #[.pointer (some ⟨g, u.at_, none⟩), .int .i64 u.s, .int .i64 u.lo, .int .i64 u.hi] 97)).mono (by have := hb1.size; first | omega | (simp at this ⊢; done) | (simp at this ⊢; omega)))
  obtain ⟨r1, r2, qu, qv, m00, m01, m02, m03, m10, m11, m12, m13⟩ := FU.out _ hb2
  go_wp2_with fail
  go_quiet ((go_at_call 41; exact Calls.quiet_of_same (inOrd_same _ _ _ _)))
  have hq0 := below_drewN hb2 nq
  generalize ((w.alloc (.cells #[.slice (some ⟨b, 0, none⟩) 2 2, .pointer none, .pointer none] 65)).alloc (.cells #[.pointer (some ⟨g, u.at_, none⟩), .int .i64 u.s, .int .i64 u.lo, .int .i64 u.hi] 97)).drewN nq = wq0 at *
  go_wp2_with fail
  clear f1 f2 ku kv b00 b01 b02 b03 b10 b11 b12 b13 r1 r2 qu qv m00 m01 m02 m03 m10 m11 m12 m13
  obtain ⟨f1, f2, ku, kv, b00, b01, b02, b03, b10, b11, b12, b13⟩ := FU.out _ hq0
  rw [rounds_succ]
  have hb3 := hq0.trans ((below_alloc wq0 (.cells #[.pointer (some ⟨g, v.at_, none⟩), .int .i64 v.s, .int .i64 v.lo, .int .i64 v.hi] 97)).mono (by have := hq0.size; first | omega | (simp at this ⊢; done) | (simp at this ⊢; omega)))
  obtain ⟨r1, r2, qu, qv, m00, m01, m02, m03, m10, m11, m12, m13⟩ := FU.out _ hb3
  go_wp2_with fail
  go_quiet ((go_at_call 41; exact Calls.quiet_of_same (inOrd_same _ _ _ _)))
  have hq1 := below_drewN hb3 nq
  generalize (wq0.alloc (.cells #[.pointer (some ⟨g, v.at_, none⟩), .int .i64 v.s, .int .i64 v.lo, .int .i64 v.hi] 97)).drewN nq = wq1 at *
  go_wp2_with fail
  clear f1 f2 ku kv b00 b01 b02 b03 b10 b11 b12 b13 r1 r2 qu qv m00 m01 m02 m03 m10 m11 m12 m13
  obtain ⟨f1, f2, ku, kv, b00, b01, b02, b03, b10, b11, b12, b13⟩ := FU.out _ hq1
  rw [rounds_succ]
  go_wp2_with fail
  rw [hp.out]
  go_ret
  exact ⟨rfl, hbw0.trans (hq1.mono (by omega))⟩
set_option maxRecDepth 100000 in
set_option maxHeartbeats 1600000 in
theorem cl_none {T : TypeId} {w : World} {g : Nat} {cs : List Value} (A : Option Addr)  (hx : Vb T w g cs) : Calls Tryz.prog 34 #[.agg #[.slice A 0 0, .pointer none, .pointer none]] w fun e w' => e = .returned (.tuple #[]) ∧ Vb T w' g (cs) ∧ Below g w w' := by
  have hx1 := hx.alloc (.cells #[.slice A 0 0, .pointer none, .pointer none] 65)
  have hb := (below_alloc w (.cells #[.slice A 0 0, .pointer none, .pointer none] 65)).mono (Nat.le_of_lt hx.lt)
  go_enter Tryz.func34, Tryz.ntmps34
  go_wp2_with fail
  refine wp_loop_rounds (0 + 1) ?_
  rw [rounds_succ]
  go_wp2_with fail
  go_end0
  exact ⟨rfl, hx1, hb⟩
set_option maxRecDepth 100000 in
set_option maxHeartbeats 1600000 in
theorem cl_rule {T : TypeId} {w : World} {g : Nat} {cs : List Value} (A : Option Addr) (hlen : 16 ≤ cs.length) (hx : Vb T w g cs) : Calls Tryz.prog 34 #[.agg #[.slice A 0 0, .pointer (some ⟨g, 3, none⟩), .pointer none]] w fun e w' => e = .returned (.tuple #[]) ∧ Vb T w' g (setAll cs 3 [.int .i64 0, .int .i64 0, .int .i64 0, .int .i64 0, .int .i64 0, .int .i64 0, .int .u8 0, .int .u8 0, .int .u8 0, .int .u8 0, .int .u8 0, .int .u8 0, .slice none 0 0]) ∧ Below g w w' := by
  have hx1 := hx.alloc (.cells #[.slice A 0 0, .pointer (some ⟨g, 3, none⟩), .pointer none] 65)
  have hb := (below_alloc w (.cells #[.slice A 0 0, .pointer (some ⟨g, 3, none⟩), .pointer none] 65)).mono (Nat.le_of_lt hx.lt)
  have hf := hx1.free
  obtain ⟨v0, e0⟩ : ∃ v, cs[3]? = some v := ⟨_, List.getElem?_eq_getElem (by omega)⟩
  obtain ⟨v1, e1⟩ : ∃ v, cs[4]? = some v := ⟨_, List.getElem?_eq_getElem (by omega)⟩
  obtain ⟨v2, e2⟩ : ∃ v, cs[5]? = some v := ⟨_, List.getElem?_eq_getElem (by omega)⟩
  obtain ⟨v3, e3⟩ : ∃ v, cs[6]? = some v := ⟨_, List.getElem?_eq_getElem (by omega)⟩
  obtain ⟨v4, e4⟩ : ∃ v, cs[7]? = some v := ⟨_, List.getElem?_eq_getElem (by omega)⟩
  obtain ⟨v5, e5⟩ : ∃ v, cs[8]? = some v := ⟨_, List.getElem?_eq_getElem (by omega)⟩
  obtain ⟨v6, e6⟩ : ∃ v, cs[9]? = some v := ⟨_, List.getElem?_eq_getElem (by omega)⟩
  obtain ⟨v7, e7⟩ : ∃ v, cs[10]? = some v := ⟨_, List.getElem?_eq_getElem (by omega)⟩
  obtain ⟨v8, e8⟩ : ∃ v, cs[11]? = some v := ⟨_, List.getElem?_eq_getElem (by omega)⟩
  obtain ⟨v9, e9⟩ : ∃ v, cs[12]? = some v := ⟨_, List.getElem?_eq_getElem (by omega)⟩
  obtain ⟨v10, e10⟩ : ∃ v, cs[13]? = some v := ⟨_, List.getElem?_eq_getElem (by omega)⟩
  obtain ⟨v11, e11⟩ : ∃ v, cs[14]? = some v := ⟨_, List.getElem?_eq_getElem (by omega)⟩
  obtain ⟨v12, e12⟩ : ∃ v, cs[15]? = some v := ⟨_, List.getElem?_eq_getElem (by omega)⟩
  have d0 := hx1.cell 3 e0
  have d1 := hx1.cell 4 e1
  have d2 := hx1.cell 5 e2
  have d3 := hx1.cell 6 e3
  have d4 := hx1.cell 7 e4
  have d5 := hx1.cell 8 e5
  have d6 := hx1.cell 9 e6
  have d7 := hx1.cell 10 e7
  have d8 := hx1.cell 11 e8
  have d9 := hx1.cell 12 e9
  have d10 := hx1.cell 13 e10
  have d11 := hx1.cell 14 e11
  have d12 := hx1.cell 15 e12
  clear e0 e1 e2 e3 e4 e5 e6 e7 e8 e9 e10 e11 e12
  have hvb := (Vb.new 65 w [.slice A 0 0, .pointer (some ⟨g, 3, none⟩), .pointer none])
  have hlt := hx.lt
  go_enter Tryz.func34, Tryz.ntmps34
  go_wp2_with fail
  refine wp_loop_rounds (0 + 1) ?_
  rw [rounds_succ]
  go_upto_region 7 with fail
  generalize w.alloc (.cells #[.slice A 0 0, .pointer (some ⟨g, 3, none⟩), .pointer none] 65) = wz at *
  have hy := hx1.putC [.int .i64 0, .int .i64 0, .int .i64 0, .int .i64 0, .int .i64 0, .int .i64 0, .int .u8 0, .int .u8 0, .int .u8 0, .int .u8 0, .int .u8 0, .int .u8 0, .slice none 0 0] 3
  have hb2 := putC_below (Nat.le_refl g) [.int .i64 0, .int .i64 0, .int .i64 0, .int .i64 0, .int .i64 0, .int .i64 0, .int .u8 0, .int .u8 0, .int .u8 0, .int .u8 0, .int .u8 0, .int .u8 0, .slice none 0 0] 3 hb
  have hvb2 := hvb.grown (putC_grown g [.int .i64 0, .int .i64 0, .int .i64 0, .int .i64 0, .int .i64 0, .int .i64 0, .int .u8 0, .int .u8 0, .int .u8 0, .int .u8 0, .int .u8 0, .int .u8 0, .slice none 0 0] wz 3) (by omega)
  obtain ⟨q0, q1, q2⟩ := hvb.c3
  go_upto_region 8 with fail
  change Code.wp _ _ _ _ (putC wz g 3 [.int .i64 0, .int .i64 0, .int .i64 0, .int .i64 0, .int .i64 0, .int .i64 0, .int .u8 0, .int .u8 0, .int .u8 0, .int .u8 0, .int .u8 0, .int .u8 0, .slice none 0 0])
  generalize putC wz g 3 [.int .i64 0, .int .i64 0, .int .i64 0, .int .i64 0, .int .i64 0, .int .i64 0, .int .u8 0, .int .u8 0, .int .u8 0, .int .u8 0, .int .u8 0, .int .u8 0, .slice none 0 0] = wy at *
  clear q0 q1 q2 hf d0 d1 d2 d3 d4 d5 d6 d7 d8 d9 d10 d11 d12
  obtain ⟨q0, q1, q2⟩ := hvb2.c3
  go_wp2_with fail
  go_end0
  exact ⟨rfl, hy, hb2⟩
set_option maxRecDepth 100000 in
set_option maxHeartbeats 1600000 in
theorem cl_link {T : TypeId} {w : World} {g : Nat} {cs : List Value} (A : Option Addr) (hlen : 21 ≤ cs.length) (hx : Vb T w g cs) : Calls Tryz.prog 34 #[.agg #[.slice A 0 0, .pointer none, .pointer (some ⟨g, 16, none⟩)]] w fun e w' => e = .returned (.tuple #[]) ∧ Vb T w' g (setAll cs 16 [.int .i64 0, .int .i64 0, .int .i64 0, .int .i64 0, .int .i64 0]) ∧ Below g w w' := by
  have hx1 := hx.alloc (.cells #[.slice A 0 0, .pointer none, .pointer (some ⟨g, 16, none⟩)] 65)
  have hb := (below_alloc w (.cells #[.slice A 0 0, .pointer none, .pointer (some ⟨g, 16, none⟩)] 65)).mono (Nat.le_of_lt hx.lt)
  have hf := hx1.free
  obtain ⟨v0, e0⟩ : ∃ v, cs[16]? = some v := ⟨_, List.getElem?_eq_getElem (by omega)⟩
  obtain ⟨v1, e1⟩ : ∃ v, cs[17]? = some v := ⟨_, List.getElem?_eq_getElem (by omega)⟩
  obtain ⟨v2, e2⟩ : ∃ v, cs[18]? = some v := ⟨_, List.getElem?_eq_getElem (by omega)⟩
  obtain ⟨v3, e3⟩ : ∃ v, cs[19]? = some v := ⟨_, List.getElem?_eq_getElem (by omega)⟩
  obtain ⟨v4, e4⟩ : ∃ v, cs[20]? = some v := ⟨_, List.getElem?_eq_getElem (by omega)⟩
  have d0 := hx1.cell 16 e0
  have d1 := hx1.cell 17 e1
  have d2 := hx1.cell 18 e2
  have d3 := hx1.cell 19 e3
  have d4 := hx1.cell 20 e4
  clear e0 e1 e2 e3 e4
  have hvb := (Vb.new 65 w [.slice A 0 0, .pointer none, .pointer (some ⟨g, 16, none⟩)])
  have hlt := hx.lt
  go_enter Tryz.func34, Tryz.ntmps34
  go_wp2_with fail
  refine wp_loop_rounds (0 + 1) ?_
  rw [rounds_succ]
  go_upto_region 9 with fail
  generalize w.alloc (.cells #[.slice A 0 0, .pointer none, .pointer (some ⟨g, 16, none⟩)] 65) = wz at *
  have hy := hx1.putC [.int .i64 0, .int .i64 0, .int .i64 0, .int .i64 0, .int .i64 0] 16
  have hb2 := putC_below (Nat.le_refl g) [.int .i64 0, .int .i64 0, .int .i64 0, .int .i64 0, .int .i64 0] 16 hb
  have hvb2 := hvb.grown (putC_grown g [.int .i64 0, .int .i64 0, .int .i64 0, .int .i64 0, .int .i64 0] wz 16) (by omega)
  obtain ⟨q0, q1, q2⟩ := hvb.c3
  go_wp2_with fail
  go_end0
  exact ⟨rfl, hy, hb2⟩
set_option maxRecDepth 100000 in
set_option maxHeartbeats 1600000 in
theorem cl_1 {T : TypeId} {w : World} {g : Nat} {cs : List Value} (A : Option Addr) {lo m : Nat} {u : NumV} (hR : Rn w lo g A m [u]) (hlo : g < lo) (hu : u.at_ < cs.length) (hx : Vb T w g cs) : Calls Tryz.prog 34 #[.agg #[.slice A m m, .pointer none, .pointer none]] w fun e w' => e = .returned (.tuple #[]) ∧ Vb T w' g (cs.set u.at_ (.int .i64 0)) ∧ Below g w w' := by
  have hlt := hx.lt
  have hR0 := hR
  obtain ⟨hl, _, hc⟩ := hR
  simp at hl
  subst hl
  obtain ⟨b, rfl, hlb, hbw, hc⟩ := hc (by omega)
  obtain ⟨a00, a01, a02, a03⟩ := hc 0 u rfl
  simp only [Nat.zero_mul, Nat.zero_add, Nat.one_mul, Nat.reduceAdd] at a00 a01 a02 a03
  clear hc hR0
  have hvb := Vb.new 65 w [.slice (some ⟨b, 0, none⟩) 1 1, .pointer none, .pointer none]
  have FU : Kp (∀ w', World.grownBy (w.alloc (.cells #[.slice (some ⟨b, 0, none⟩) 1 1, .pointer none, .pointer none] 65)) w' (some g) → w'.cell? ⟨w.heap.size, 1, none⟩ = some (.pointer none) ∧ w'.cell? ⟨w.heap.size, 2, none⟩ = some (.pointer none) ∧ w'.cell? ⟨b, 0, none⟩ = some (.pointer (some ⟨g, u.at_, none⟩)) ∧ w'.cell? ⟨b, 1, none⟩ = some (.int .i64 u.s) ∧ w'.cell? ⟨b, 2, none⟩ = some (.int .i64 u.lo) ∧ w'.cell? ⟨b, 3, none⟩ = some (.int .i64 u.hi)) := Kp.mk (fun w' hgr => by have hvv := hvb.grown hgr (by omega); exact ⟨hvv.cell 1 rfl, hvv.cell 2 rfl, grown_cell hgr (cell_below a00 hbw (below_alloc w _)) (by omega), grown_cell hgr (cell_below a01 hbw (below_alloc w _)) (by omega), grown_cell hgr (cell_below a02 hbw (below_alloc w _)) (by omega), grown_cell hgr (cell_below a03 hbw (below_alloc w _)) (by omega)⟩)
  clear a00 a01 a02 a03
  have hx1 := hx.alloc (.cells #[.slice (some ⟨b, 0, none⟩) 1 1, .pointer none, .pointer none] 65)
  have hgr1 : World.grownBy (w.alloc (.cells #[.slice (some ⟨b, 0, none⟩) 1 1, .pointer none, .pointer none] 65)) (w.alloc (.cells #[.slice (some ⟨b, 0, none⟩) 1 1, .pointer none, .pointer none] 65)) (some g) := World.grownBy.refl _ _
  have hb1 := (below_alloc w (.cells #[.slice (some ⟨b, 0, none⟩) 1 1, .pointer none, .pointer none] 65)).mono (Nat.le_of_lt hlt)
  have hz1 : w.heap.size < (w.alloc (.cells #[.slice (some ⟨b, 0, none⟩) 1 1, .pointer none, .pointer none] 65)).heap.size := by simp
  go_enter Tryz.func34, Tryz.ntmps34
  go_wp2_with fail
  refine wp_loop_rounds (1 + 1) ?_
  obtain ⟨f1, f2, b00, b01, b02, b03⟩ := FU.out _ hgr1
  rw [rounds_succ]
  go_upto_region 4 with fail
  have hm1 := Vb.new 97 (w.alloc (.cells #[.slice (some ⟨b, 0, none⟩) 1 1, .pointer none, .pointer none] 65)) [.pointer (some ⟨g, u.at_, none⟩), .int .i64 u.s, .int .i64 u.lo, .int .i64 u.hi]
  rw [alloc_size] at hm1
  have hxa1 := hx1.alloc (.cells #[.pointer (some ⟨g, u.at_, none⟩), .int .i64 u.s, .int .i64 u.lo, .int .i64 u.hi] 97)
  have hga1 : World.grownBy (w.alloc (.cells #[.slice (some ⟨b, 0, none⟩) 1 1, .pointer none, .pointer none] 65)) ((w.alloc (.cells #[.slice (some ⟨b, 0, none⟩) 1 1, .pointer none, .pointer none] 65)).alloc (.cells #[.pointer (some ⟨g, u.at_, none⟩), .int .i64 u.s, .int .i64 u.lo, .int .i64 u.hi] 97)) (some g) := grown_trans2 hgr1 (grown_of_below (below_alloc (w.alloc (.cells #[.slice (some ⟨b, 0, none⟩) 1 1, .pointer none, .pointer none] 65)) (.cells #[.pointer (some ⟨g, u.at_, none⟩), .int .i64 u.s, .int .i64 u.lo, .int .i64 u.hi] 97)) (some g))
  have hba1 := hb1.trans ((below_alloc (w.alloc (.cells #[.slice (some ⟨b, 0, none⟩) 1 1, .pointer none, .pointer none] 65)) (.cells #[.pointer (some ⟨g, u.at_, none⟩), .int .i64 u.s, .int .i64 u.lo, .int .i64 u.hi] 97)).mono (by have := hb1.size; omega))
  have hne1 : (w.alloc (.cells #[.slice (some ⟨b, 0, none⟩) 1 1, .pointer none, .pointer none] 65)).heap.size ≠ g := by have := hb1.size; omega
  clear f1 f2 b00 b01 b02 b03
  generalize ((w.alloc (.cells #[.slice (some ⟨b, 0, none⟩) 1 1, .pointer none, .pointer none] 65)).alloc (.cells #[.pointer (some ⟨g, u.at_, none⟩), .int .i64 u.s, .int .i64 u.lo, .int .i64 u.hi] 97)) = wa1 at *
  obtain ⟨e0, e1, e2, e3⟩ := hm1.c4
  obtain ⟨x0, hx0⟩ : ∃ x, (cs)[u.at_]? = some x := ⟨_, List.getElem?_eq_getElem (by simpa using hu)⟩
  have c0 := hxa1.cell u.at_ hx0
  have hf := hxa1.free
  have hx2 := hxa1.set u.at_ (.int .i64 0)
  have hgr2 := grown_trans2 hga1 (grownBy_set wa1 g u.at_ (.int .i64 0))
  have hb2 : Below g w (wa1.setCell ⟨g, u.at_, none⟩ (.int .i64 0)) := hba1.setCell (by simp) (.int .i64 0)
  clear hx0
  go_upto_region 5 with fail
  generalize (wa1.setCell ⟨g, u.at_, none⟩ (.int .i64 0)) = wb1 at *
  clear e0 e1 e2 e3 c0 hf
  go_wp2_with fail
  obtain ⟨f1, f2, b00, b01, b02, b03⟩ := FU.out _ hgr2
  rw [rounds_succ]
  go_wp2_with fail
  go_end0
  exact ⟨rfl, hx2, hb2⟩
set_option maxRecDepth 100000 in
set_option maxHeartbeats 1600000 in
theorem cl_2 {T : TypeId} {w : World} {g : Nat} {cs : List Value} (A : Option Addr) {lo m : Nat} {u v : NumV} (hR : Rn w lo g A m [u, v]) (hlo : g < lo) (hu : u.at_ < cs.length) (hv : v.at_ < cs.length) (hx : Vb T w g cs) : Calls Tryz.prog 34 #[.agg #[.slice A m m, .pointer none, .pointer none]] w fun e w' => e = .returned (.tuple #[]) ∧ Vb T w' g ((cs.set u.at_ (.int .i64 0)).set v.at_ (.int .i64 0)) ∧ Below g w w' := by
  have hlt := hx.lt
  have hR0 := hR
  obtain ⟨hl, _, hc⟩ := hR
  simp at hl
  subst hl
  obtain ⟨b, rfl, hlb, hbw, hc⟩ := hc (by omega)
  obtain ⟨a00, a01, a02, a03⟩ := hc 0 u rfl
  simp only [Nat.zero_mul, Nat.zero_add, Nat.one_mul, Nat.reduceAdd] at a00 a01 a02 a03
  obtain ⟨a10, a11, a12, a13⟩ := hc 1 v rfl
  simp only [Nat.zero_mul, Nat.zero_add, Nat.one_mul, Nat.reduceAdd] at a10 a11 a12 a13
  clear hc hR0
  have hvb := Vb.new 65 w [.slice (some ⟨b, 0, none⟩) 2 2, .pointer none, .pointer none]
  have FU : Kp (∀ w', World.grownBy (w.alloc (.cells #[.slice (some ⟨b, 0, none⟩) 2 2, .pointer none, .pointer none] 65)) w' (some g) → w'.cell? ⟨w.heap.size, 1, none⟩ = some (.pointer none) ∧ w'.cell? ⟨w.heap.size, 2, none⟩ = some (.pointer none) ∧ w'.cell? ⟨b, 0, none⟩ = some (.pointer (some ⟨g, u.at_, none⟩)) ∧ w'.cell? ⟨b, 1, none⟩ = some (.int .i64 u.s) ∧ w'.cell? ⟨b, 2, none⟩ = some (.int .i64 u.lo) ∧ w'.cell? ⟨b, 3, none⟩ = some (.int .i64 u.hi) ∧ w'.cell? ⟨b, 4, none⟩ = some (.pointer (some ⟨g, v.at_, none⟩)) ∧ w'.cell? ⟨b, 5, none⟩ = some (.int .i64 v.s) ∧ w'.cell? ⟨b, 6, none⟩ = some (.int .i64 v.lo) ∧ w'.cell? ⟨b, 7, none⟩ = some (.int .i64 v.hi)) := Kp.mk (fun w' hgr => by have hvv := hvb.grown hgr (by omega); exact ⟨hvv.cell 1 rfl, hvv.cell 2 rfl, grown_cell hgr (cell_below a00 hbw (below_alloc w _)) (by omega), grown_cell hgr (cell_below a01 hbw (below_alloc w _)) (by omega), grown_cell hgr (cell_below a02 hbw (below_alloc w _)) (by omega), grown_cell hgr (cell_below a03 hbw (below_alloc w _)) (by omega), grown_cell hgr (cell_below a10 hbw (below_alloc w _)) (by omega), grown_cell hgr (cell_below a11 hbw (below_alloc w _)) (by omega), grown_cell hgr (cell_below a12 hbw (below_alloc w _)) (by omega), grown_cell hgr (cell_below a13 hbw (below_alloc w _)) (by omega)⟩)
  clear a00 a01 a02 a03 a10 a11 a12 a13
  have hx1 := hx.alloc (.cells #[.slice (some ⟨b, 0, none⟩) 2 2, .pointer none, .pointer none] 65)
  have hgr1 : World.grownBy (w.alloc (.cells #[.slice (some ⟨b, 0, none⟩) 2 2, .pointer none, .pointer none] 65)) (w.alloc (.cells #[.slice (some ⟨b, 0, none⟩) 2 2, .pointer none, .pointer none] 65)) (some g) := World.grownBy.refl _ _
  have hb1 := (below_alloc w (.cells #[.slice (some ⟨b, 0, none⟩) 2 2, .pointer none, .pointer none] 65)).mono (Nat.le_of_lt hlt)
  have hz1 : w.heap.size < (w.alloc (.cells #[.slice (some ⟨b, 0, none⟩) 2 2, .pointer none, .pointer none] 65)).heap.size := by simp
  go_enter Tryz.func34, Tryz.ntmps34
  go_wp2_with fail
  refine wp_loop_rounds (2 + 1) ?_
  obtain ⟨f1, f2, b00, b01, b02, b03, b10, b11, b12, b13⟩ := FU.out _ hgr1
  rw [rounds_succ]
  go_upto_region 4 with fail
  have hm1 := Vb.new 97 (w.alloc (.cells #[.slice (some ⟨b, 0, none⟩) 2 2, .pointer none, .pointer none] 65)) [.pointer (some ⟨g, u.at_, none⟩), .int .i64 u.s, .int .i64 u.lo, .int .i64 u.hi]
  rw [alloc_size] at hm1
  have hxa1 := hx1.alloc (.cells #[.pointer (some ⟨g, u.at_, none⟩), .int .i64 u.s, .int .i64 u.lo, .int .i64 u.hi] 97)
  have hga1 : World.grownBy (w.alloc (.cells #[.slice (some ⟨b, 0, none⟩) 2 2, .pointer none, .pointer none] 65)) ((w.alloc (.cells #[.slice (some ⟨b, 0, none⟩) 2 2, .pointer none, .pointer none] 65)).alloc (.cells #[.pointer (some ⟨g, u.at_, none⟩), .int .i64 u.s, .int .i64 u.lo, .int .i64 u.hi] 97)) (some g) := grown_trans2 hgr1 (grown_of_below (below_alloc (w.alloc (.cells #[.slice (some ⟨b, 0, none⟩) 2 2, .pointer none, .pointer none] 65)) (.cells #[.pointer (some ⟨g, u.at_, none⟩), .int .i64 u.s, .int .i64 u.lo, .int .i64 u.hi] 97)) (some g))
  have hba1 := hb1.trans ((below_alloc (w.alloc (.cells #[.slice (some ⟨b, 0, none⟩) 2 2, .pointer none, .pointer none] 65)) (.cells #[.pointer (some ⟨g, u.at_, none⟩), .int .i64 u.s, .int .i64 u.lo, .int .i64 u.hi] 97)).mono (by have := hb1.size; omega))
  have hne1 : (w.alloc (.cells #[.slice (some ⟨b, 0, none⟩) 2 2, .pointer none, .pointer none] 65)).heap.size ≠ g := by have := hb1.size; omega
  clear f1 f2 b00 b01 b02 b03 b10 b11 b12 b13
  generalize ((w.alloc (.cells #[.slice (some ⟨b, 0, none⟩) 2 2, .pointer none, .pointer none] 65)).alloc (.cells #[.pointer (some ⟨g, u.at_, none⟩), .int .i64 u.s, .int .i64 u.lo, .int .i64 u.hi] 97)) = wa1 at *
  obtain ⟨e0, e1, e2, e3⟩ := hm1.c4
  obtain ⟨x0, hx0⟩ : ∃ x, (cs)[u.at_]? = some x := ⟨_, List.getElem?_eq_getElem (by simpa using hu)⟩
  have c0 := hxa1.cell u.at_ hx0
  have hf := hxa1.free
  have hx2 := hxa1.set u.at_ (.int .i64 0)
  have hgr2 := grown_trans2 hga1 (grownBy_set wa1 g u.at_ (.int .i64 0))
  have hb2 : Below g w (wa1.setCell ⟨g, u.at_, none⟩ (.int .i64 0)) := hba1.setCell (by simp) (.int .i64 0)
  clear hx0
  go_upto_region 5 with fail
  generalize (wa1.setCell ⟨g, u.at_, none⟩ (.int .i64 0)) = wb1 at *
  clear e0 e1 e2 e3 c0 hf
  go_wp2_with fail
  obtain ⟨f1, f2, b00, b01, b02, b03, b10, b11, b12, b13⟩ := FU.out _ hgr2
  rw [rounds_succ]
  go_upto_region 4 with fail
  have hm2 := Vb.new 97 wb1 [.pointer (some ⟨g, v.at_, none⟩), .int .i64 v.s, .int .i64 v.lo, .int .i64 v.hi]
  skip
  have hxa2 := hx2.alloc (.cells #[.pointer (some ⟨g, v.at_, none⟩), .int .i64 v.s, .int .i64 v.lo, .int .i64 v.hi] 97)
  have hga2 : World.grownBy (w.alloc (.cells #[.slice (some ⟨b, 0, none⟩) 2 2, .pointer none, .pointer none] 65)) (wb1.alloc (.cells #[.pointer (some ⟨g, v.at_, none⟩), .int .i64 v.s, .int .i64 v.lo, .int .i64 v.hi] 97)) (some g) := grown_trans2 hgr2 (grown_of_below (below_alloc wb1 (.cells #[.pointer (some ⟨g, v.at_, none⟩), .int .i64 v.s, .int .i64 v.lo, .int .i64 v.hi] 97)) (some g))
  have hba2 := hb2.trans ((below_alloc wb1 (.cells #[.pointer (some ⟨g, v.at_, none⟩), .int .i64 v.s, .int .i64 v.lo, .int .i64 v.hi] 97)).mono (by have := hb2.size; omega))
  have hne2 : wb1.heap.size ≠ g := by have := hb2.size; omega
  clear f1 f2 b00 b01 b02 b03 b10 b11 b12 b13
  generalize (wb1.alloc (.cells #[.pointer (some ⟨g, v.at_, none⟩), .int .i64 v.s, .int .i64 v.lo, .int .i64 v.hi] 97)) = wa2 at *
  obtain ⟨e0, e1, e2, e3⟩ := hm2.c4
  obtain ⟨x0, hx0⟩ : ∃ x, ((cs.set u.at_ (.int .i64 0)))[v.at_]? = some x := ⟨_, List.getElem?_eq_getElem (by simpa using hv)⟩
  have c0 := hxa2.cell v.at_ hx0
  have hf := hxa2.free
  have hx3 := hxa2.set v.at_ (.int .i64 0)
  have hgr3 := grown_trans2 hga2 (grownBy_set wa2 g v.at_ (.int .i64 0))
  have hb3 : Below g w (wa2.setCell ⟨g, v.at_, none⟩ (.int .i64 0)) := hba2.setCell (by simp) (.int .i64 0)
  clear hx0
  go_upto_region 5 with fail
  generalize (wa2.setCell ⟨g, v.at_, none⟩ (.int .i64 0)) = wb2 at *
  clear e0 e1 e2 e3 c0 hf
  go_wp2_with fail
  obtain ⟨f1, f2, b00, b01, b02, b03, b10, b11, b12, b13⟩ := FU.out _ hgr3
  rw [rounds_succ]
  go_wp2_with fail
  go_end0
  exact ⟨rfl, hx3, hb3⟩
end Go.Proofs.YteambkehdbffmaaGreat.Oct
