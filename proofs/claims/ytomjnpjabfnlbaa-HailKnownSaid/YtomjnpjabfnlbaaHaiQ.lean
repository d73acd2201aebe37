/- Layer 16 (hail): HailPlays. -/
import Derived.Test.YtomjnpjabfnlbaaHaiS
import Derived.Test.YtomjnpjabfnlbaaHaiX
import Derived.Test.YtomjnpjabfnlbaaHaiF
import Derived.LoopTactic
namespace Go.Proofs.Ytomjnpjabfnlbaa.Oct
open Go.RowKit
set_option linter.unusedVariables false
set_option linter.unusedSimpArgs false
/-- Between two segments. -/
def HpR (W : World) (X c g d h n0 : Nat) (tz e sf bo : Int) (s16 : Value) (wr : World) : Prop := ∃ (i : Nat) (b q E : Int) (y : Sv), s16 = .int .i64 i ∧ Kp (i ≤ n0 ∧ i ≤ 100) ∧ Kp (EN W wr X c g d h tz e b q b q sf bo E E y)
theorem open_like {q : Int} : (q - 1 == 2) = (q == 3) := by
  rw [Bool.eq_iff_iff]
  simp
  omega
theorem meas101 {i : Nat} (h : i + 1 ≤ 100) : (101 - intOf (.int .i64 ((i : Int) + 1))).toNat < (101 - intOf (.int .i64 (i : Int))).toNat := by
  simp [intOf]
  omega
/-- The statement's own blocks, ahead of the loop. -/
structure Hq (W w : World) (z3 z4 X : Nat) (a0 a1 b0 b1 : Int) (xs : List Value) : Prop where
  p : Vb 22 w z3 [.int .i64 a0, .int .i64 a1]
  q : Vb 22 w z4 [.int .i64 b0, .int .i64 b1]
  x : Vb 33 w X xs
  z3 : W.heap.size ≤ z3
  z4 : W.heap.size ≤ z4
  zx : W.heap.size ≤ X
  old : Below W.heap.size W w
section
variable {W w w' : World} {z3 z4 X : Nat} {a0 a1 b0 b1 : Int} {xs : List Value}
theorem Hq.below (h : Hq W w z3 z4 X a0 a1 b0 b1 xs) (hb : Below w.heap.size w w') : Hq W w' z3 z4 X a0 a1 b0 b1 xs := ⟨h.p.below hb h.p.lt, h.q.below hb h.q.lt, h.x.below hb h.x.lt, h.z3, h.z4, h.zx, h.old.trans (hb.mono h.old.size)⟩
theorem Hq.cells (h : Hq W w z3 z4 X a0 a1 b0 b1 xs) : w.cell? ⟨z3, 0, none⟩ = some (.int .i64 a0) ∧ w.cell? ⟨z3, 1, none⟩ = some (.int .i64 a1) ∧ w.cell? ⟨z4, 0, none⟩ = some (.int .i64 b0) ∧ w.cell? ⟨z4, 1, none⟩ = some (.int .i64 b1) := ⟨h.p.cell 0 rfl, h.p.cell 1 rfl, h.q.cell 0 rfl, h.q.cell 1 rfl⟩
theorem Hq.set (h : Hq W w z3 z4 X a0 a1 b0 b1 xs) (j : Nat) (v : Value) : Hq W (w.setCell ⟨X, j, none⟩ v) z3 z4 X a0 a1 b0 b1 (xs.set j v) :=
  have hg := grownBy_set w X j v
  ⟨h.p.grown hg (vb_ne h.p h.x (by decide)), h.q.grown hg (vb_ne h.q h.x (by decide)), h.x.set j v, h.z3, h.z4, h.zx, below_grown h.old hg h.old.size h.zx⟩
set_option maxRecDepth 100000 in
set_option maxHeartbeats 20000000 in
theorem hailPlays_any (a0 a1 b0 b1 : Int) {A : Option Addr} {n0 c0 : Nat} {ds : List DoH} (rd : Dh W W.heap.size A n0 c0 ds) : Calls Try.prog 3 #[.agg #[.int .i64 a0, .int .i64 a1], .agg #[.int .i64 b0, .int .i64 b1], .slice A n0 c0] W fun en w' => en = .returned (.bool true) ∧ Below W.heap.size W w' := by
  have hm := rd.max
  have HR := Kp.mk rd
  clear rd
  have H0 : Kp (∀ (v3 : World) (e3 : v3 = W.alloc (.cells #[.int .i64 a0, .int .i64 a1] 22)) (v4 : World) (e4 : v4 = v3.alloc (.cells #[.int .i64 b0, .int .i64 b1] 22)) (v5 : World) (e5 : v5 = v4.alloc (.cells #[.pointer none, .pointer none, .pointer none, .pointer none, .int .i64 0, .int .i64 0, .int .i64 0, .int .i64 0, .int .i64 0, .int .i64 0, .int .i64 0, .int .i64 0, .slice none 0 0] 33)), Hq W v5 W.heap.size v3.heap.size v4.heap.size a0 a1 b0 b1 [.pointer none, .pointer none, .pointer none, .pointer none, .int .i64 0, .int .i64 0, .int .i64 0, .int .i64 0, .int .i64 0, .int .i64 0, .int .i64 0, .int .i64 0, .slice none 0 0]) := Kp.mk (by
    rintro v3 rfl v4 rfl v5 rfl
    have p1 := Vb.new 22 W [.int .i64 a0, .int .i64 a1]
    have b1' := below_alloc W (.cells #[.int .i64 a0, .int .i64 a1] 22)
    have b2' := b1'.trans ((below_alloc (W.alloc (.cells #[.int .i64 a0, .int .i64 a1] 22)) (.cells #[.int .i64 b0, .int .i64 b1] 22)).mono b1'.size)
    exact ⟨(p1.alloc _).alloc _, (Vb.new 22 _ [.int .i64 b0, .int .i64 b1]).alloc _, Vb.new _ _ _, Nat.le_refl _, b1'.size, b2'.size, b2'.trans ((below_alloc _ _).mono b2'.size)⟩)
  go_enter Try.func3, Try.ntmps3
  go_upto_region 2 with fail
  have hq := H0.out _ rfl _ rfl _ rfl
  rw [allocZ, allocZ, allocZ] at hq
  clear H0
  obtain ⟨X, hX⟩ : ∃ X, X = W.heap.size + 1 + 1 := ⟨_, rfl⟩
  rw [← hX] at hq ⊢
  obtain ⟨z4, hz4⟩ : ∃ z, z = W.heap.size + 1 := ⟨_, rfl⟩
  rw [← hz4] at hq ⊢
  obtain ⟨z3, hz3⟩ : ∃ z, z = W.heap.size := ⟨_, rfl⟩
  have HZX := Kp.mk hX
  have HZ4 := Kp.mk hz4
  have HZ3 := Kp.mk hz3
  have hq : Hq W (((W.alloc (.cells #[.int .i64 a0, .int .i64 a1] 22)).alloc (.cells #[.int .i64 b0, .int .i64 b1] 22)).alloc (.cells #[.pointer none, .pointer none, .pointer none, .pointer none, .int .i64 0, .int .i64 0, .int .i64 0, .int .i64 0, .int .i64 0, .int .i64 0, .int .i64 0, .int .i64 0, .slice none 0 0] 33)) z3 z4 X a0 a1 b0 b1 [.pointer none, .pointer none, .pointer none, .pointer none, .int .i64 0, .int .i64 0, .int .i64 0, .int .i64 0, .int .i64 0, .int .i64 0, .int .i64 0, .int .i64 0, .slice none 0 0] := by rw [hz3]; exact hq
  rw [← hz3]
  clear hX hz4 hz3
  generalize ((W.alloc (.cells #[.int .i64 a0, .int .i64 a1] 22)).alloc (.cells #[.int .i64 b0, .int .i64 b1] 22)).alloc (.cells #[.pointer none, .pointer none, .pointer none, .pointer none, .int .i64 0, .int .i64 0, .int .i64 0, .int .i64 0, .int .i64 0, .int .i64 0, .int .i64 0, .int .i64 0, .slice none 0 0] 33) = w1 at *
  cases hP : (swB a0 && lgB a1 1) with
  | false =>
    cases hQ : (swB b0 && lgB b1 0) with
    | false =>
      have HOw1 := Kp.mk hq.old.size
      obtain ⟨t0, t1, t2, t3⟩ := hq.cells
      have hn := cnew_no w1 a0 a1 hP
      go_wp2_with fail
      refine hn.mono ?_
      rintro en wx ⟨rfl, hw⟩
      replace hw := hw.symm
      subst hw
      clear hn t0 t1 t2 t3
      obtain ⟨t0, t1, t2, t3⟩ := hq.cells
      have hn := rcnew_no w1 a0 a1 hP
      go_wp2_with fail
      refine hn.mono ?_
      rintro en wx ⟨rfl, hw⟩
      replace hw := hw.symm
      subst hw
      clear hn t0 t1 t2 t3
      obtain ⟨t0, t1, t2, t3⟩ := hq.cells
      have hn := gnew_no w1 b0 b1 hQ
      go_wp2_with fail
      refine hn.mono ?_
      rintro en wx ⟨rfl, hw⟩
      replace hw := hw.symm
      subst hw
      clear hn t0 t1 t2 t3
      obtain ⟨t0, t1, t2, t3⟩ := hq.cells
      have hn := rgnew_no w1 b0 b1 hQ
      go_wp2_with fail
      refine hn.mono ?_
      rintro en wx ⟨rfl, hw⟩
      replace hw := hw.symm
      subst hw
      clear hn t0 t1 t2 t3
      have x1 := hq.set 0 (.pointer none)
      have x2 := x1.set 2 (.pointer none)
      have x3 := x2.set 1 (.pointer none)
      have x4 := x3.set 3 (.pointer none)
      have e0 := hq.x.cell 0 rfl
      have f0 := hq.x.free 0
      have e1 := x1.x.cell 2 rfl
      have f1 := x1.x.free 2
      have e2 := x2.x.cell 1 rfl
      have f2 := x2.x.free 1
      have e3 := x3.x.cell 3 rfl
      have f3 := x3.x.free 3
      have HO := Kp.mk x4.old
      clear hq x1 x2 x3 x4 hP hQ
      go_upto_region 12 with fail
      generalize ((((w1.setCell ⟨X, 0, none⟩ (.pointer none)).setCell ⟨X, 2, none⟩ (.pointer none)).setCell ⟨X, 1, none⟩ (.pointer none)).setCell ⟨X, 3, none⟩ (.pointer none)) = wz at *
      clear e0 e1 e2 e3 f0 f1 f2 f3
      go_wp2_with fail
      refine wp_loop_rounds 1 ?_
      rw [rounds_succ]
      by_cases hl : (0 : Int) < n0
      all_goals (go_wp2_with fail; refine (worksH_any _).mono ?_; rintro en wq ⟨rfl, hbq⟩; go_wp2_with fail; go_ret; exact ⟨rfl, HO.out.trans (hbq.mono HO.out.size)⟩)
    | true =>
      have HOw1 := Kp.mk hq.old.size
      obtain ⟨t0, t1, t2, t3⟩ := hq.cells
      have hn := cnew_no w1 a0 a1 hP
      go_wp2_with fail
      refine hn.mono ?_
      rintro en wx ⟨rfl, hw⟩
      replace hw := hw.symm
      subst hw
      clear hn t0 t1 t2 t3
      obtain ⟨t0, t1, t2, t3⟩ := hq.cells
      have hn := rcnew_no w1 a0 a1 hP
      go_wp2_with fail
      refine hn.mono ?_
      rintro en wx ⟨rfl, hw⟩
      replace hw := hw.symm
      subst hw
      clear hn t0 t1 t2 t3
      obtain ⟨t0, t1, t2, t3⟩ := hq.cells
      have hn := gnew_yes w1 b0 b1 (Bool.and_eq_true_iff.mp hQ).1 (Bool.and_eq_true_iff.mp hQ).2
      go_wp2_with fail
      refine hn.mono ?_
      rintro en w2 ⟨rfl, hv, hb⟩
      clear hn t0 t1 t2 t3
      replace hq := hq.below hb
      obtain ⟨g, hz⟩ : ∃ z, z = w1.heap.size := ⟨_, rfl⟩
      have Hg := Kp.mk (show W.heap.size ≤ g by rw [hz]; exact HOw1.out)
      rw [← hz] at hv ⊢
      have vg := hv
      have HOw2 := Kp.mk hq.old.size
      clear hv hb hz
      obtain ⟨t0, t1, t2, t3⟩ := hq.cells
      have hn := rgnew_yes w2 b0 b1 (Bool.and_eq_true_iff.mp hQ).1 (Bool.and_eq_true_iff.mp hQ).2
      go_wp2_with fail
      refine hn.mono ?_
      rintro en w3 ⟨rfl, hv, hb⟩
      clear hn t0 t1 t2 t3
      replace hq := hq.below hb
      replace vg := Vb.below vg hb (Vb.lt vg)
      obtain ⟨h, hz⟩ : ∃ z, z = w2.heap.size := ⟨_, rfl⟩
      have Hh := Kp.mk (show W.heap.size ≤ h by rw [hz]; exact HOw2.out)
      rw [← hz] at hv ⊢
      have vh := hv
      have HOw3 := Kp.mk hq.old.size
      clear hv hb hz
      have x1 := hq.set 0 (.pointer none)
      have x2 := x1.set 2 (.pointer none)
      have x3 := x2.set 1 (.pointer (some ⟨g, 0, none⟩))
      have x4 := x3.set 3 (.pointer (some ⟨h, 0, none⟩))
      have e0 := hq.x.cell 0 rfl
      have f0 := hq.x.free 0
      have e1 := x1.x.cell 2 rfl
      have f1 := x1.x.free 2
      have e2 := x2.x.cell 1 rfl
      have f2 := x2.x.free 1
      have e3 := x3.x.cell 3 rfl
      have f3 := x3.x.free 3
      have HO := Kp.mk x4.old
      clear hq x1 x2 x3 x4 hP hQ vg vh
      go_upto_region 12 with fail
      generalize ((((w3.setCell ⟨X, 0, none⟩ (.pointer none)).setCell ⟨X, 2, none⟩ (.pointer none)).setCell ⟨X, 1, none⟩ (.pointer (some ⟨g, 0, none⟩))).setCell ⟨X, 3, none⟩ (.pointer (some ⟨h, 0, none⟩))) = wz at *
      clear e0 e1 e2 e3 f0 f1 f2 f3
      go_wp2_with fail
      refine wp_loop_rounds 1 ?_
      rw [rounds_succ]
      by_cases hl : (0 : Int) < n0
      all_goals (go_wp2_with fail; refine (worksH_any _).mono ?_; rintro en wq ⟨rfl, hbq⟩; go_wp2_with fail; go_ret; exact ⟨rfl, HO.out.trans (hbq.mono HO.out.size)⟩)
  | true =>
    cases hQ : (swB b0 && lgB b1 0) with
    | false =>
      have HOw1 := Kp.mk hq.old.size
      obtain ⟨t0, t1, t2, t3⟩ := hq.cells
      have hn := cnew_yes w1 a0 a1 (Bool.and_eq_true_iff.mp hP).1 (Bool.and_eq_true_iff.mp hP).2
      go_wp2_with fail
      refine hn.mono ?_
      rintro en w2 ⟨rfl, hv, hb⟩
      clear hn t0 t1 t2 t3
      replace hq := hq.below hb
      obtain ⟨c, hz⟩ : ∃ z, z = w1.heap.size := ⟨_, rfl⟩
      have Hc := Kp.mk (show W.heap.size ≤ c by rw [hz]; exact HOw1.out)
      rw [← hz] at hv ⊢
      have vc := hv
      have HOw2 := Kp.mk hq.old.size
      clear hv hb hz
      obtain ⟨t0, t1, t2, t3⟩ := hq.cells
      have hn := rcnew_yes w2 a0 a1 (Bool.and_eq_true_iff.mp hP).1 (Bool.and_eq_true_iff.mp hP).2
      go_wp2_with fail
      refine hn.mono ?_
      rintro en w3 ⟨rfl, hv, hb⟩
      clear hn t0 t1 t2 t3
      replace hq := hq.below hb
      replace vc := Vb.below vc hb (Vb.lt vc)
      obtain ⟨d, hz⟩ : ∃ z, z = w2.heap.size := ⟨_, rfl⟩
      have Hd := Kp.mk (show W.heap.size ≤ d by rw [hz]; exact HOw2.out)
      rw [← hz] at hv ⊢
      have vd := hv
      have HOw3 := Kp.mk hq.old.size
      clear hv hb hz
      obtain ⟨t0, t1, t2, t3⟩ := hq.cells
      have hn := gnew_no w3 b0 b1 hQ
      go_wp2_with fail
      refine hn.mono ?_
      rintro en wx ⟨rfl, hw⟩
      replace hw := hw.symm
      subst hw
      clear hn t0 t1 t2 t3
      obtain ⟨t0, t1, t2, t3⟩ := hq.cells
      have hn := rgnew_no w3 b0 b1 hQ
      go_wp2_with fail
      refine hn.mono ?_
      rintro en wx ⟨rfl, hw⟩
      replace hw := hw.symm
      subst hw
      clear hn t0 t1 t2 t3
      have x1 := hq.set 0 (.pointer (some ⟨c, 0, none⟩))
      have x2 := x1.set 2 (.pointer (some ⟨d, 0, none⟩))
      have x3 := x2.set 1 (.pointer none)
      have x4 := x3.set 3 (.pointer none)
      have e0 := hq.x.cell 0 rfl
      have f0 := hq.x.free 0
      have e1 := x1.x.cell 2 rfl
      have f1 := x1.x.free 2
      have e2 := x2.x.cell 1 rfl
      have f2 := x2.x.free 1
      have e3 := x3.x.cell 3 rfl
      have f3 := x3.x.free 3
      have HO := Kp.mk x4.old
      clear hq x1 x2 x3 x4 hP hQ vc vd
      go_upto_region 12 with fail
      generalize ((((w3.setCell ⟨X, 0, none⟩ (.pointer (some ⟨c, 0, none⟩))).setCell ⟨X, 2, none⟩ (.pointer (some ⟨d, 0, none⟩))).setCell ⟨X, 1, none⟩ (.pointer none)).setCell ⟨X, 3, none⟩ (.pointer none)) = wz at *
      clear e0 e1 e2 e3 f0 f1 f2 f3
      go_wp2_with fail
      refine wp_loop_rounds 1 ?_
      rw [rounds_succ]
      by_cases hl : (0 : Int) < n0
      all_goals (go_wp2_with fail; refine (worksH_any _).mono ?_; rintro en wq ⟨rfl, hbq⟩; go_wp2_with fail; go_ret; exact ⟨rfl, HO.out.trans (hbq.mono HO.out.size)⟩)
    | true =>
      have HOw1 := Kp.mk hq.old.size
      obtain ⟨t0, t1, t2, t3⟩ := hq.cells
      have hn := cnew_yes w1 a0 a1 (Bool.and_eq_true_iff.mp hP).1 (Bool.and_eq_true_iff.mp hP).2
      go_wp2_with fail
      refine hn.mono ?_
      rintro en w2 ⟨rfl, hv, hb⟩
      clear hn t0 t1 t2 t3
      replace hq := hq.below hb
      obtain ⟨c, hz⟩ : ∃ z, z = w1.heap.size := ⟨_, rfl⟩
      have Hc := Kp.mk (show W.heap.size ≤ c by rw [hz]; exact HOw1.out)
      rw [← hz] at hv ⊢
      have vc := hv
      have HOw2 := Kp.mk hq.old.size
      clear hv hb hz
      obtain ⟨t0, t1, t2, t3⟩ := hq.cells
      have hn := rcnew_yes w2 a0 a1 (Bool.and_eq_true_iff.mp hP).1 (Bool.and_eq_true_iff.mp hP).2
      go_wp2_with fail
      refine hn.mono ?_
      rintro en w3 ⟨rfl, hv, hb⟩
      clear hn t0 t1 t2 t3
      replace hq := hq.below hb
      replace vc := Vb.below vc hb (Vb.lt vc)
      obtain ⟨d, hz⟩ : ∃ z, z = w2.heap.size := ⟨_, rfl⟩
      have Hd := Kp.mk (show W.heap.size ≤ d by rw [hz]; exact HOw2.out)
      rw [← hz] at hv ⊢
      have vd := hv
      have HOw3 := Kp.mk hq.old.size
      clear hv hb hz
      obtain ⟨t0, t1, t2, t3⟩ := hq.cells
      have hn := gnew_yes w3 b0 b1 (Bool.and_eq_true_iff.mp hQ).1 (Bool.and_eq_true_iff.mp hQ).2
      go_wp2_with fail
      refine hn.mono ?_
      rintro en w4 ⟨rfl, hv, hb⟩
      clear hn t0 t1 t2 t3
      replace hq := hq.below hb
      replace vc := Vb.below vc hb (Vb.lt vc)
      replace vd := Vb.below vd hb (Vb.lt vd)
      obtain ⟨g, hz⟩ : ∃ z, z = w3.heap.size := ⟨_, rfl⟩
      have Hg := Kp.mk (show W.heap.size ≤ g by rw [hz]; exact HOw3.out)
      rw [← hz] at hv ⊢
      have vg := hv
      have HOw4 := Kp.mk hq.old.size
      clear hv hb hz
      obtain ⟨t0, t1, t2, t3⟩ := hq.cells
      have hn := rgnew_yes w4 b0 b1 (Bool.and_eq_true_iff.mp hQ).1 (Bool.and_eq_true_iff.mp hQ).2
      go_wp2_with fail
      refine hn.mono ?_
      rintro en w5 ⟨rfl, hv, hb⟩
      clear hn t0 t1 t2 t3
      replace hq := hq.below hb
      replace vc := Vb.below vc hb (Vb.lt vc)
      replace vd := Vb.below vd hb (Vb.lt vd)
      replace vg := Vb.below vg hb (Vb.lt vg)
      obtain ⟨h, hz⟩ : ∃ z, z = w4.heap.size := ⟨_, rfl⟩
      have Hh := Kp.mk (show W.heap.size ≤ h by rw [hz]; exact HOw4.out)
      rw [← hz] at hv ⊢
      have vh := hv
      have HOw5 := Kp.mk hq.old.size
      clear hv hb hz
      have x1 := hq.set 0 (.pointer (some ⟨c, 0, none⟩))
      have x2 := x1.set 2 (.pointer (some ⟨d, 0, none⟩))
      have x3 := x2.set 1 (.pointer (some ⟨g, 0, none⟩))
      have x4 := x3.set 3 (.pointer (some ⟨h, 0, none⟩))
      have e0 := hq.x.cell 0 rfl
      have f0 := hq.x.free 0
      have e1 := x1.x.cell 2 rfl
      have f1 := x1.x.free 2
      have e2 := x2.x.cell 1 rfl
      have f2 := x2.x.free 1
      have e3 := x3.x.cell 3 rfl
      have f3 := x3.x.free 3
      have hgr : w5.grownBy ((((w5.setCell ⟨X, 0, none⟩ (.pointer (some ⟨c, 0, none⟩))).setCell ⟨X, 2, none⟩ (.pointer (some ⟨d, 0, none⟩))).setCell ⟨X, 1, none⟩ (.pointer (some ⟨g, 0, none⟩))).setCell ⟨X, 3, none⟩ (.pointer (some ⟨h, 0, none⟩))) (some X) := (((grownBy_set _ X 0 (.pointer (some ⟨c, 0, none⟩))).trans (grownBy_set _ X 2 (.pointer (some ⟨d, 0, none⟩)))).trans (grownBy_set _ X 1 (.pointer (some ⟨g, 0, none⟩)))).trans (grownBy_set _ X 3 (.pointer (some ⟨h, 0, none⟩)))
      replace vc := Vb.grown vc hgr (vb_ne vc hq.x (by decide))
      replace vd := Vb.grown vd hgr (vb_ne vd hq.x (by decide))
      replace vg := Vb.grown vg hgr (vb_ne vg hq.x (by decide))
      replace vh := Vb.grown vh hgr (vb_ne vh hq.x (by decide))
      have hs0 : a0 ≠ 0 := by have := sw_yes (Bool.and_eq_true_iff.mp hP).1; omega
      have hs1 : b0 ≠ 0 := by have := sw_yes (Bool.and_eq_true_iff.mp hQ).1; omega
      have hE : EN W ((((w5.setCell ⟨X, 0, none⟩ (.pointer (some ⟨c, 0, none⟩))).setCell ⟨X, 2, none⟩ (.pointer (some ⟨d, 0, none⟩))).setCell ⟨X, 1, none⟩ (.pointer (some ⟨g, 0, none⟩))).setCell ⟨X, 3, none⟩ (.pointer (some ⟨h, 0, none⟩))) X c g d h a0 a1 0 1 0 1 b0 b1 0 0 sv0 := ⟨⟨vc, vg, Hc.out, Hg.out, .inl rfl, hs1, x4.old⟩, vd, vh, x4.x, Hd.out, Hh.out, x4.zx, .inl rfl⟩
      have HE := Kp.mk hE
      clear hgr hE hs0 hs1 hq x1 x2 x3 x4 vc vd vg vh hP hQ
      go_upto_region 12 with fail
      generalize ((((w5.setCell ⟨X, 0, none⟩ (.pointer (some ⟨c, 0, none⟩))).setCell ⟨X, 2, none⟩ (.pointer (some ⟨d, 0, none⟩))).setCell ⟨X, 1, none⟩ (.pointer (some ⟨g, 0, none⟩))).setCell ⟨X, 3, none⟩ (.pointer (some ⟨h, 0, none⟩))) = wz at *
      clear e0 e1 e2 e3 f0 f1 f2 f3
      go_wp2_with fail
      go_loopw [16] (fun s16 wr => HpR W X c g d h n0 a0 a1 b0 b1 s16 wr) (fun s16 _ => (101 - intOf s16).toNat)
      case atStart => exact ⟨0, 0, 1, 0, sv0, rfl, Kp.mk ⟨by omega, by omega⟩, HE⟩
      case round =>
        clear HE
        obtain ⟨i, b, q, E, y, rfl, HI, HE⟩ := hrel
        by_cases hl1 : (i : Int) < n0
        rotate_left
        · go_wp2_with fail
          refine (worksH_any _).mono ?_
          rintro en wq ⟨rfl, hbq⟩
          have HO := Kp.mk (HE.out.cg.old.trans (hbq.mono HE.out.cg.old.size))
          clear HE hbq
          go_wp2_with fail
          go_ret
          exact ⟨rfl, HO.out⟩
        by_cases hl2 : (i : Int) < 100
        rotate_left
        · go_wp2_with fail
          refine (worksH_any _).mono ?_
          rintro en wq ⟨rfl, hbq⟩
          have HO := Kp.mk (HE.out.cg.old.trans (hbq.mono HE.out.cg.old.size))
          clear HE hbq
          go_wp2_with fail
          go_ret
          exact ⟨rfl, HO.out⟩
        obtain ⟨bH, oH, eH, hbH, hcH⟩ := (HR.out.below HE.out.cg.old).ex (by omega)
        subst eH
        obtain ⟨dd, hdd⟩ : ∃ dd, ds[i]? = some dd := ⟨_, List.getElem?_eq_getElem (by have := HR.out.len; omega)⟩
        have hcell := Kp.mk (fun (Y : World) (hY : Below W.heap.size W Y) => (show ∀ i' u, dd.cells[i']? = some u → Y.cell? ⟨bH, oH + i * 11 + i', none⟩ = some u from by
          obtain ⟨bK, oK, eK, hbK, hcK⟩ := (HR.out.below hY).ex (by omega)
          have e2 : bH = bK ∧ oH = oK := by simpa using eK
          obtain ⟨rfl, rfl⟩ := e2
          exact hcK i dd hdd))
        obtain ⟨dk, dn, dx⟩ := dd
        have ei : wrap64 ((i : Int) + 1) = (i : Int) + 1 := by have := HI.out; unfold wrap64; omega
        have HEI := Kp.mk ei
        have HI2 := Kp.mk (show i + 1 ≤ n0 ∧ i + 1 ≤ 100 ∧ ((i + 1 : Nat) : Int) = (i : Int) + 1 by have := HI.out; omega)
        clear hcH hbH hdd
        have hE := HE.out
        clear HE
        have hR : ∀ Y, EN W Y X c g d h a0 a1 b q b q b0 b1 E E y → _ := fun Y kY => kY.rsays
        have hbare := saysC_bare a0 a1 b q
        have hS := hE.says
        generalize saysC a0 a1 b q = yy at *
        generalize (q != 3) = B0 at *
        obtain ⟨yk, yt, yf, yh, yp, yo, ys, ya, yA, yn, yc⟩ := yy
        simp only [Sv.v] at hS hR
        obtain ⟨x0, x1, x2, x3, x4, x5, x6, x7⟩ := hE.cells
        go_wp2_with fail
        refine hS.mono ?_
        rintro en u1 ⟨rfl, h2, hb1⟩
        clear hS hE hb1 x0 x1 x2 x3 x4 x5 x6 x7
        have hE := h2
        clear h2
        go_upto_region 16 with fail
        have hN := new_seg9 u1 yk yt yf yh yp yo ys ya yA yn yc
        have h2 := hE.below hN.2
        obtain ⟨za, hz⟩ : ∃ z, z = u1.heap.size := ⟨_, rfl⟩
        rw [← hz] at hN ⊢
        have Hza := Kp.mk hz
        have va := hN.1
        clear hz hN hE
        have hE := h2
        clear h2
        generalize u1.alloc (.cells #[.int .i64 yk, .int .i64 yt, .int .i64 yf, .int .i64 yh, .int .i64 yp, .int .i64 yo, .int .i64 ys, .int .i64 ya, .slice yA yn yc] 31) = u2 at *
        obtain ⟨x0, x1, x2, x3, x4, x5, x6, x7⟩ := hE.cells
        go_wp2_with fail
        refine (hR _ hE).mono ?_
        rintro en u3 ⟨rfl, h2, hb1⟩
        replace va := va.below hb1 va.lt
        clear hR hE hb1 x0 x1 x2 x3 x4 x5 x6 x7
        have hE := h2
        clear h2
        go_upto_region 17 with fail
        have hN := new_seg9 u3 yk yt yf yh yp yo ys ya yA yn yc
        have h2 := hE.below hN.2
        replace va := va.below hN.2 va.lt
        obtain ⟨zb, hz⟩ : ∃ z, z = u3.heap.size := ⟨_, rfl⟩
        rw [← hz] at hN ⊢
        have Hzb := Kp.mk hz
        have vb := hN.1
        clear hz hN hE
        have hE := h2
        clear h2
        generalize u3.alloc (.cells #[.int .i64 yk, .int .i64 yt, .int .i64 yf, .int .i64 yh, .int .i64 yp, .int .i64 yo, .int .i64 ys, .int .i64 ya, .slice yA yn yc] 31) = u4 at *
        have hk := hE.below (Below.refl _ _).drew
        have hS0 : (fun Y : World => (∃ (b : Int) (q : Int) (E : Int) (y : Sv), EN W Y X c g d h a0 a1 b q b q b0 b1 E E y) ∧ Vb 31 Y za [.int .i64 yk, .int .i64 yt, .int .i64 yf, .int .i64 yh, .int .i64 yp, .int .i64 yo, .int .i64 ys, .int .i64 ya, .slice yA yn yc] ∧ Vb 31 Y zb [.int .i64 yk, .int .i64 yt, .int .i64 yf, .int .i64 yh, .int .i64 yp, .int .i64 yo, .int .i64 ys, .int .i64 ya, .slice yA yn yc]) u4.drew := ⟨⟨_, _, _, _, hk⟩, va.below (Below.refl _ _).drew va.lt, vb.below (Below.refl _ _).drew vb.lt⟩
        clear hE va vb
        refine wp_region_held_drew (S := fun Y : World => (∃ (b : Int) (q : Int) (E : Int) (y : Sv), EN W Y X c g d h a0 a1 b q b q b0 b1 E E y) ∧ Vb 31 Y za [.int .i64 yk, .int .i64 yt, .int .i64 yf, .int .i64 yh, .int .i64 yp, .int .i64 yo, .int .i64 ys, .int .i64 ya, .slice yA yn yc] ∧ Vb 31 Y zb [.int .i64 yk, .int .i64 yt, .int .i64 yf, .int .i64 yh, .int .i64 yp, .int .i64 yo, .int .i64 ys, .int .i64 ya, .slice yA yn yc]) (by kernel_rfl) hS0 (fun _ => ?_)
        generalize u4.drew = w3 at *
        refine takeD (i := 0) (v := .pointer (some ⟨X, 0, none⟩)) (some 127) rfl rfl (by kernel_rfl) (by kernel_rfl) (by kernel_rfl) (fun _ _ _ h => h) (Or.inl ⟨by rfl, ?_⟩) hS0 ?_
        · rintro w' hq
          go_simp
        try simp only [Act.put, List.setIfInBounds_toArray, List.set_cons_zero, List.set_cons_succ]
        refine takeD (i := 1) (v := .slice (some ⟨bH, oH, none⟩) n0 c0) (some 128) rfl rfl (by kernel_rfl) (by kernel_rfl) (by kernel_rfl) (fun _ _ _ h => h) (Or.inl ⟨by rfl, ?_⟩) hS0 ?_
        · rintro w' hq
          go_simp
        try simp only [Act.put, List.setIfInBounds_toArray, List.set_cons_zero, List.set_cons_succ]
        refine takeD (i := 2) (v := .int .i64 i) (some 129) rfl rfl (by kernel_rfl) (by kernel_rfl) (by kernel_rfl) (fun _ _ _ h => h) (Or.inl ⟨by rfl, ?_⟩) hS0 ?_
        · rintro w' hq
          go_simp
        try simp only [Act.put, List.setIfInBounds_toArray, List.set_cons_zero, List.set_cons_succ]
        refine takeD (i := 3) (v := .pointer (some ⟨bH, oH + i * 11, none⟩)) (some 130) rfl rfl (by kernel_rfl) (by kernel_rfl) (by kernel_rfl) (fun _ _ _ h => h) (Or.inl ⟨by rfl, ?_⟩) hS0 ?_
        · rintro w' hq
          go_simp
        try simp only [Act.put, List.setIfInBounds_toArray, List.set_cons_zero, List.set_cons_succ]
        refine takeD (i := 4) (v := .agg #[.int .i64 dk, .int .i64 dn, .int .i64 dx.k, .int .i64 dx.t, .int .i64 dx.f, .int .i64 dx.h, .int .i64 dx.p, .int .i64 dx.o, .int .i64 dx.s, .int .i64 dx.a, .slice dx.A dx.n dx.c]) (some 131) rfl rfl (by kernel_rfl) (by kernel_rfl) (by kernel_rfl) (fun _ _ _ h => h) (Or.inl ⟨by rfl, ?_⟩) hS0 ?_
        · rintro w' hq
          obtain ⟨⟨_, _, _, _, hq1⟩, hq2, hq3⟩ := hq
          have t0 : w'.cell? ⟨bH, oH + i * 11, none⟩ = some (.int .i64 dk) := hcell.out w' hq1.cg.old 0 _ rfl
          have t1 : w'.cell? ⟨bH, oH + i * 11 + 1, none⟩ = some (.int .i64 dn) := hcell.out w' hq1.cg.old 1 _ rfl
          have t2 : w'.cell? ⟨bH, oH + i * 11 + 2, none⟩ = some (.int .i64 dx.k) := hcell.out w' hq1.cg.old 2 _ rfl
          have t3 : w'.cell? ⟨bH, oH + i * 11 + 3, none⟩ = some (.int .i64 dx.t) := hcell.out w' hq1.cg.old 3 _ rfl
          have t4 : w'.cell? ⟨bH, oH + i * 11 + 4, none⟩ = some (.int .i64 dx.f) := hcell.out w' hq1.cg.old 4 _ rfl
          have t5 : w'.cell? ⟨bH, oH + i * 11 + 5, none⟩ = some (.int .i64 dx.h) := hcell.out w' hq1.cg.old 5 _ rfl
          have t6 : w'.cell? ⟨bH, oH + i * 11 + 6, none⟩ = some (.int .i64 dx.p) := hcell.out w' hq1.cg.old 6 _ rfl
          have t7 : w'.cell? ⟨bH, oH + i * 11 + 7, none⟩ = some (.int .i64 dx.o) := hcell.out w' hq1.cg.old 7 _ rfl
          have t8 : w'.cell? ⟨bH, oH + i * 11 + 8, none⟩ = some (.int .i64 dx.s) := hcell.out w' hq1.cg.old 8 _ rfl
          have t9 : w'.cell? ⟨bH, oH + i * 11 + 9, none⟩ = some (.int .i64 dx.a) := hcell.out w' hq1.cg.old 9 _ rfl
          have t10 : w'.cell? ⟨bH, oH + i * 11 + 10, none⟩ = some (.slice dx.A dx.n dx.c) := hcell.out w' hq1.cg.old 10 _ rfl
          go_simp
        try simp only [Act.put, List.setIfInBounds_toArray, List.set_cons_zero, List.set_cons_succ]
        refine wpAnyH_ready (rs := [5]) (by kernel_rfl) (by simp) ?_
        refine AllReadyH.cons rfl (fun K hK => ?_) AllReadyH.nil
        try rw [if_pos (by rfl)]
        go_simp
        refine (step_any hk dk dn dx).mono ?_
        rintro en u5 ⟨rfl, ⟨b2, q2, E2, y2, hE⟩, hkk⟩
        have hS1 : (fun Y : World => (∃ (b : Int) (q : Int) (E : Int) (y : Sv), EN W Y X c g d h a0 a1 b q b q b0 b1 E E y) ∧ Vb 31 Y za [.int .i64 yk, .int .i64 yt, .int .i64 yf, .int .i64 yh, .int .i64 yp, .int .i64 yo, .int .i64 ys, .int .i64 ya, .slice yA yn yc] ∧ Vb 31 Y zb [.int .i64 yk, .int .i64 yt, .int .i64 yf, .int .i64 yh, .int .i64 yp, .int .i64 yo, .int .i64 ys, .int .i64 ya, .slice yA yn yc]) u5 := ⟨⟨_, _, _, _, hE⟩, hkk _ _ hS0.2.1, hkk _ _ hS0.2.2⟩
        clear hkk hk hS0
        refine hK.out _ _ hS1 (fun _ => ?_)
        clear hK K
        try simp only [Act.put, List.setIfInBounds_toArray, List.set_cons_zero, List.set_cons_succ]
        refine takeD (i := 6) (v := .bool false) (some 133) rfl rfl (by kernel_rfl) (by kernel_rfl) (by kernel_rfl) (fun _ _ _ h => h) (Or.inl ⟨by rfl, ?_⟩) hS1 ?_
        · rintro w' hq
          go_simp
        try simp only [Act.put, List.setIfInBounds_toArray, List.set_cons_zero, List.set_cons_succ]
        refine takeD (i := 7) (v := .bool false) (some 134) rfl rfl (by kernel_rfl) (by kernel_rfl) (by kernel_rfl) (fun _ _ _ h => h) (Or.inl ⟨by rfl, ?_⟩) hS1 ?_
        · rintro w' hq
          go_simp
        try simp only [Act.put, List.setIfInBounds_toArray, List.set_cons_zero, List.set_cons_succ]
        refine takeD (i := 8) (v := .pointer (some ⟨X, 0, none⟩)) (some 135) rfl rfl (by kernel_rfl) (by kernel_rfl) (by kernel_rfl) (fun _ _ _ h => h) (Or.inl ⟨by rfl, ?_⟩) hS1 ?_
        · rintro w' hq
          go_simp
        try simp only [Act.put, List.setIfInBounds_toArray, List.set_cons_zero, List.set_cons_succ]
        refine takeD (i := 9) (v := .pointer (some ⟨X, 0, none⟩)) (some 136) rfl rfl (by kernel_rfl) (by kernel_rfl) (by kernel_rfl) (fun _ _ _ h => h) (Or.inl ⟨by rfl, ?_⟩) hS1 ?_
        · rintro w' hq
          go_simp
        try simp only [Act.put, List.setIfInBounds_toArray, List.set_cons_zero, List.set_cons_succ]
        refine takeD (i := 10) (v := .pointer (some ⟨X, 0, none⟩)) (some 137) rfl rfl (by kernel_rfl) (by kernel_rfl) (by kernel_rfl) (fun _ _ _ h => h) (Or.inl ⟨by rfl, ?_⟩) hS1 ?_
        · rintro w' hq
          go_simp
        try simp only [Act.put, List.setIfInBounds_toArray, List.set_cons_zero, List.set_cons_succ]
        refine takeD (i := 11) (v := .pointer (some ⟨c, 0, none⟩)) (some 138) rfl rfl (by kernel_rfl) (by kernel_rfl) (by kernel_rfl) (fun _ _ _ h => h) (Or.inl ⟨by rfl, ?_⟩) hS1 ?_
        · rintro w' hq
          obtain ⟨⟨_, _, _, _, hq1⟩, hq2, hq3⟩ := hq
          obtain ⟨x0, x1, x2, x3, x4, x5, x6, x7⟩ := hq1.cells
          go_simp
        try simp only [Act.put, List.setIfInBounds_toArray, List.set_cons_zero, List.set_cons_succ]
        refine takeD (i := 13) (v := .pointer (some ⟨X, 0, none⟩)) (some 140) rfl rfl (by kernel_rfl) (by kernel_rfl) (by kernel_rfl) (fun _ _ _ h => h) (Or.inl ⟨by rfl, ?_⟩) hS1 ?_
        · rintro w' hq
          go_simp
        try simp only [Act.put, List.setIfInBounds_toArray, List.set_cons_zero, List.set_cons_succ]
        refine takeD (i := 14) (v := .pointer (some ⟨X, 0, none⟩)) (some 141) rfl rfl (by kernel_rfl) (by kernel_rfl) (by kernel_rfl) (fun _ _ _ h => h) (Or.inl ⟨by rfl, ?_⟩) hS1 ?_
        · rintro w' hq
          go_simp
        try simp only [Act.put, List.setIfInBounds_toArray, List.set_cons_zero, List.set_cons_succ]
        refine takeD (i := 15) (v := .pointer (some ⟨X, 2, none⟩)) (some 142) rfl rfl (by kernel_rfl) (by kernel_rfl) (by kernel_rfl) (fun _ _ _ h => h) (Or.inl ⟨by rfl, ?_⟩) hS1 ?_
        · rintro w' hq
          go_simp
        try simp only [Act.put, List.setIfInBounds_toArray, List.set_cons_zero, List.set_cons_succ]
        refine takeD (i := 16) (v := .pointer (some ⟨d, 0, none⟩)) (some 143) rfl rfl (by kernel_rfl) (by kernel_rfl) (by kernel_rfl) (fun _ _ _ h => h) (Or.inl ⟨by rfl, ?_⟩) hS1 ?_
        · rintro w' hq
          obtain ⟨⟨_, _, _, _, hq1⟩, hq2, hq3⟩ := hq
          obtain ⟨x0, x1, x2, x3, x4, x5, x6, x7⟩ := hq1.cells
          go_simp
        try simp only [Act.put, List.setIfInBounds_toArray, List.set_cons_zero, List.set_cons_succ]
        refine wpAnyH_ready (rs := [12]) (by kernel_rfl) (by simp) ?_
        refine AllReadyH.cons rfl (fun K hK => ?_) AllReadyH.nil
        try rw [if_pos (by rfl)]
        go_simp
        refine (cOpen hE.cg.cb).mono ?_
        rintro en wx ⟨rfl, hw⟩
        replace hw := hw.symm
        subst hw
        refine hK.out _ _ hS1 (fun _ => ?_)
        clear hK K
        try simp only [Act.put, List.setIfInBounds_toArray, List.set_cons_zero, List.set_cons_succ]
        refine wpAnyH_ready (rs := [17]) (by kernel_rfl) (by simp) ?_
        refine AllReadyH.cons rfl (fun K hK => ?_) AllReadyH.nil
        try rw [if_pos (by rfl)]
        go_simp
        refine (rcOpen hE.rc).mono ?_
        rintro en wx ⟨rfl, hw⟩
        replace hw := hw.symm
        subst hw
        rw [open_like]
        refine hK.out _ _ hS1 (fun _ => ?_)
        clear hK K
        try simp only [Act.put, List.setIfInBounds_toArray, List.set_cons_zero, List.set_cons_succ]
        refine takeD (i := 18) (v := .bool false) (some 145) rfl rfl (by kernel_rfl) (by kernel_rfl) (by kernel_rfl) (fun _ _ _ h => h) (Or.inl ⟨by rfl, ?_⟩) hS1 ?_
        · rintro w' hq
          go_simp
        try simp only [Act.put, List.setIfInBounds_toArray, List.set_cons_zero, List.set_cons_succ]
        refine takeD (i := 19) (v := .bool false) (some 146) rfl rfl (by kernel_rfl) (by kernel_rfl) (by kernel_rfl) (fun _ _ _ h => h) (Or.inl ⟨by rfl, ?_⟩) hS1 ?_
        · rintro w' hq
          go_simp
        try simp only [Act.put, List.setIfInBounds_toArray, List.set_cons_zero, List.set_cons_succ]
        refine takeD (i := 20) (v := .bool false) (some 147) rfl rfl (by kernel_rfl) (by kernel_rfl) (by kernel_rfl) (fun _ _ _ h => h) (Or.inl ⟨by rfl, ?_⟩) hS1 ?_
        · rintro w' hq
          go_simp
        try simp only [Act.put, List.setIfInBounds_toArray, List.set_cons_zero, List.set_cons_succ]
        refine takeD (i := 21) (v := .pointer (some ⟨X, 0, none⟩)) (some 148) rfl rfl (by kernel_rfl) (by kernel_rfl) (by kernel_rfl) (fun _ _ _ h => h) (Or.inl ⟨by rfl, ?_⟩) hS1 ?_
        · rintro w' hq
          go_simp
        try simp only [Act.put, List.setIfInBounds_toArray, List.set_cons_zero, List.set_cons_succ]
        refine takeD (i := 22) (v := .pointer (some ⟨X, 0, none⟩)) (some 149) rfl rfl (by kernel_rfl) (by kernel_rfl) (by kernel_rfl) (fun _ _ _ h => h) (Or.inl ⟨by rfl, ?_⟩) hS1 ?_
        · rintro w' hq
          go_simp
        try simp only [Act.put, List.setIfInBounds_toArray, List.set_cons_zero, List.set_cons_succ]
        refine takeD (i := 23) (v := .pointer (some ⟨X, 0, none⟩)) (some 150) rfl rfl (by kernel_rfl) (by kernel_rfl) (by kernel_rfl) (fun _ _ _ h => h) (Or.inl ⟨by rfl, ?_⟩) hS1 ?_
        · rintro w' hq
          go_simp
        try simp only [Act.put, List.setIfInBounds_toArray, List.set_cons_zero, List.set_cons_succ]
        refine takeD (i := 24) (v := .pointer (some ⟨c, 0, none⟩)) (some 151) rfl rfl (by kernel_rfl) (by kernel_rfl) (by kernel_rfl) (fun _ _ _ h => h) (Or.inl ⟨by rfl, ?_⟩) hS1 ?_
        · rintro w' hq
          obtain ⟨⟨_, _, _, _, hq1⟩, hq2, hq3⟩ := hq
          obtain ⟨x0, x1, x2, x3, x4, x5, x6, x7⟩ := hq1.cells
          go_simp
        try simp only [Act.put, List.setIfInBounds_toArray, List.set_cons_zero, List.set_cons_succ]
        refine takeD (i := 26) (v := .pointer (some ⟨X, 0, none⟩)) (some 153) rfl rfl (by kernel_rfl) (by kernel_rfl) (by kernel_rfl) (fun _ _ _ h => h) (Or.inl ⟨by rfl, ?_⟩) hS1 ?_
        · rintro w' hq
          go_simp
        try simp only [Act.put, List.setIfInBounds_toArray, List.set_cons_zero, List.set_cons_succ]
        refine takeD (i := 27) (v := .pointer (some ⟨X, 0, none⟩)) (some 154) rfl rfl (by kernel_rfl) (by kernel_rfl) (by kernel_rfl) (fun _ _ _ h => h) (Or.inl ⟨by rfl, ?_⟩) hS1 ?_
        · rintro w' hq
          go_simp
        try simp only [Act.put, List.setIfInBounds_toArray, List.set_cons_zero, List.set_cons_succ]
        refine takeD (i := 28) (v := .pointer (some ⟨X, 2, none⟩)) (some 155) rfl rfl (by kernel_rfl) (by kernel_rfl) (by kernel_rfl) (fun _ _ _ h => h) (Or.inl ⟨by rfl, ?_⟩) hS1 ?_
        · rintro w' hq
          go_simp
        try simp only [Act.put, List.setIfInBounds_toArray, List.set_cons_zero, List.set_cons_succ]
        refine takeD (i := 29) (v := .pointer (some ⟨d, 0, none⟩)) (some 156) rfl rfl (by kernel_rfl) (by kernel_rfl) (by kernel_rfl) (fun _ _ _ h => h) (Or.inl ⟨by rfl, ?_⟩) hS1 ?_
        · rintro w' hq
          obtain ⟨⟨_, _, _, _, hq1⟩, hq2, hq3⟩ := hq
          obtain ⟨x0, x1, x2, x3, x4, x5, x6, x7⟩ := hq1.cells
          go_simp
        try simp only [Act.put, List.setIfInBounds_toArray, List.set_cons_zero, List.set_cons_succ]
        refine wpAnyH_ready (rs := [25]) (by kernel_rfl) (by simp) ?_
        refine AllReadyH.cons rfl (fun K hK => ?_) AllReadyH.nil
        try rw [if_pos (by rfl)]
        go_simp
        refine (cBoot hE.cg.cb).mono ?_
        rintro en wx ⟨rfl, hw⟩
        replace hw := hw.symm
        subst hw
        refine hK.out _ _ hS1 (fun _ => ?_)
        clear hK K
        try simp only [Act.put, List.setIfInBounds_toArray, List.set_cons_zero, List.set_cons_succ]
        refine wpAnyH_ready (rs := [30]) (by kernel_rfl) (by simp) ?_
        refine AllReadyH.cons rfl (fun K hK => ?_) AllReadyH.nil
        try rw [if_pos (by rfl)]
        go_simp
        refine (rcBoot hE.rc).mono ?_
        rintro en wx ⟨rfl, hw⟩
        replace hw := hw.symm
        subst hw
        refine hK.out _ _ hS1 (fun _ => ?_)
        clear hK K
        try simp only [Act.put, List.setIfInBounds_toArray, List.set_cons_zero, List.set_cons_succ]
        refine takeD (i := 31) (v := .bool false) (some 158) rfl rfl (by kernel_rfl) (by kernel_rfl) (by kernel_rfl) (fun _ _ _ h => h) (Or.inl ⟨by rfl, ?_⟩) hS1 ?_
        · rintro w' hq
          go_simp
        try simp only [Act.put, List.setIfInBounds_toArray, List.set_cons_zero, List.set_cons_succ]
        refine takeD (i := 32) (v := .bool false) (some 159) rfl rfl (by kernel_rfl) (by kernel_rfl) (by kernel_rfl) (fun _ _ _ h => h) (Or.inl ⟨by rfl, ?_⟩) hS1 ?_
        · rintro w' hq
          go_simp
        try simp only [Act.put, List.setIfInBounds_toArray, List.set_cons_zero, List.set_cons_succ]
        refine takeD (i := 33) (v := .bool false) (some 160) rfl rfl (by kernel_rfl) (by kernel_rfl) (by kernel_rfl) (fun _ _ _ h => h) (Or.inl ⟨by rfl, ?_⟩) hS1 ?_
        · rintro w' hq
          go_simp
        try simp only [Act.put, List.setIfInBounds_toArray, List.set_cons_zero, List.set_cons_succ]
        refine takeD (i := 34) (v := .pointer (some ⟨X, 0, none⟩)) (some 161) rfl rfl (by kernel_rfl) (by kernel_rfl) (by kernel_rfl) (fun _ _ _ h => h) (Or.inl ⟨by rfl, ?_⟩) hS1 ?_
        · rintro w' hq
          go_simp
        try simp only [Act.put, List.setIfInBounds_toArray, List.set_cons_zero, List.set_cons_succ]
        refine takeD (i := 35) (v := .pointer (some ⟨X, 0, none⟩)) (some 162) rfl rfl (by kernel_rfl) (by kernel_rfl) (by kernel_rfl) (fun _ _ _ h => h) (Or.inl ⟨by rfl, ?_⟩) hS1 ?_
        · rintro w' hq
          go_simp
        try simp only [Act.put, List.setIfInBounds_toArray, List.set_cons_zero, List.set_cons_succ]
        refine takeD (i := 36) (v := .pointer (some ⟨X, 1, none⟩)) (some 163) rfl rfl (by kernel_rfl) (by kernel_rfl) (by kernel_rfl) (fun _ _ _ h => h) (Or.inl ⟨by rfl, ?_⟩) hS1 ?_
        · rintro w' hq
          go_simp
        try simp only [Act.put, List.setIfInBounds_toArray, List.set_cons_zero, List.set_cons_succ]
        refine takeD (i := 37) (v := .pointer (some ⟨g, 0, none⟩)) (some 164) rfl rfl (by kernel_rfl) (by kernel_rfl) (by kernel_rfl) (fun _ _ _ h => h) (Or.inl ⟨by rfl, ?_⟩) hS1 ?_
        · rintro w' hq
          obtain ⟨⟨_, _, _, _, hq1⟩, hq2, hq3⟩ := hq
          obtain ⟨x0, x1, x2, x3, x4, x5, x6, x7⟩ := hq1.cells
          go_simp
        try simp only [Act.put, List.setIfInBounds_toArray, List.set_cons_zero, List.set_cons_succ]
        refine takeD (i := 39) (v := .pointer (some ⟨X, 0, none⟩)) (some 166) rfl rfl (by kernel_rfl) (by kernel_rfl) (by kernel_rfl) (fun _ _ _ h => h) (Or.inl ⟨by rfl, ?_⟩) hS1 ?_
        · rintro w' hq
          go_simp
        try simp only [Act.put, List.setIfInBounds_toArray, List.set_cons_zero, List.set_cons_succ]
        refine takeD (i := 40) (v := .pointer (some ⟨X, 0, none⟩)) (some 167) rfl rfl (by kernel_rfl) (by kernel_rfl) (by kernel_rfl) (fun _ _ _ h => h) (Or.inl ⟨by rfl, ?_⟩) hS1 ?_
        · rintro w' hq
          go_simp
        try simp only [Act.put, List.setIfInBounds_toArray, List.set_cons_zero, List.set_cons_succ]
        refine takeD (i := 41) (v := .pointer (some ⟨X, 3, none⟩)) (some 168) rfl rfl (by kernel_rfl) (by kernel_rfl) (by kernel_rfl) (fun _ _ _ h => h) (Or.inl ⟨by rfl, ?_⟩) hS1 ?_
        · rintro w' hq
          go_simp
        try simp only [Act.put, List.setIfInBounds_toArray, List.set_cons_zero, List.set_cons_succ]
        refine takeD (i := 42) (v := .pointer (some ⟨h, 0, none⟩)) (some 169) rfl rfl (by kernel_rfl) (by kernel_rfl) (by kernel_rfl) (fun _ _ _ h => h) (Or.inl ⟨by rfl, ?_⟩) hS1 ?_
        · rintro w' hq
          obtain ⟨⟨_, _, _, _, hq1⟩, hq2, hq3⟩ := hq
          obtain ⟨x0, x1, x2, x3, x4, x5, x6, x7⟩ := hq1.cells
          go_simp
        try simp only [Act.put, List.setIfInBounds_toArray, List.set_cons_zero, List.set_cons_succ]
        refine wpAnyH_ready (rs := [38]) (by kernel_rfl) (by simp) ?_
        refine AllReadyH.cons rfl (fun K hK => ?_) AllReadyH.nil
        try rw [if_pos (by rfl)]
        go_simp
        refine (gEpoch hE.cg.gb).mono ?_
        rintro en wx ⟨rfl, hw⟩
        replace hw := hw.symm
        subst hw
        refine hK.out _ _ hS1 (fun _ => ?_)
        clear hK K
        try simp only [Act.put, List.setIfInBounds_toArray, List.set_cons_zero, List.set_cons_succ]
        refine wpAnyH_ready (rs := [43]) (by kernel_rfl) (by simp) ?_
        refine AllReadyH.cons rfl (fun K hK => ?_) AllReadyH.nil
        try rw [if_pos (by rfl)]
        go_simp
        refine (rgEpoch hE.rg).mono ?_
        rintro en wx ⟨rfl, hw⟩
        replace hw := hw.symm
        subst hw
        refine hK.out _ _ hS1 (fun _ => ?_)
        clear hK K
        try simp only [Act.put, List.setIfInBounds_toArray, List.set_cons_zero, List.set_cons_succ]
        refine takeD (i := 44) (v := .bool false) (some 171) rfl rfl (by kernel_rfl) (by kernel_rfl) (by kernel_rfl) (fun _ _ _ h => h) (Or.inl ⟨by rfl, ?_⟩) hS1 ?_
        · rintro w' hq
          go_simp
        try simp only [Act.put, List.setIfInBounds_toArray, List.set_cons_zero, List.set_cons_succ]
        refine takeD (i := 45) (v := .bool false) (some 172) rfl rfl (by kernel_rfl) (by kernel_rfl) (by kernel_rfl) (fun _ _ _ h => h) (Or.inl ⟨by rfl, ?_⟩) hS1 ?_
        · rintro w' hq
          go_simp
        try simp only [Act.put, List.setIfInBounds_toArray, List.set_cons_zero, List.set_cons_succ]
        refine takeD (i := 46) (v := .bool false) (some 173) rfl rfl (by kernel_rfl) (by kernel_rfl) (by kernel_rfl) (fun _ _ _ h => h) (Or.inl ⟨by rfl, ?_⟩) hS1 ?_
        · rintro w' hq
          go_simp
        try simp only [Act.put, List.setIfInBounds_toArray, List.set_cons_zero, List.set_cons_succ]
        refine takeD (i := 47) (v := .pointer (some ⟨X, 0, none⟩)) (some 174) rfl rfl (by kernel_rfl) (by kernel_rfl) (by kernel_rfl) (fun _ _ _ h => h) (Or.inl ⟨by rfl, ?_⟩) hS1 ?_
        · rintro w' hq
          go_simp
        try simp only [Act.put, List.setIfInBounds_toArray, List.set_cons_zero, List.set_cons_succ]
        refine takeD (i := 48) (v := .pointer (some ⟨X, 0, none⟩)) (some 175) rfl rfl (by kernel_rfl) (by kernel_rfl) (by kernel_rfl) (fun _ _ _ h => h) (Or.inl ⟨by rfl, ?_⟩) hS1 ?_
        · rintro w' hq
          go_simp
        try simp only [Act.put, List.setIfInBounds_toArray, List.set_cons_zero, List.set_cons_succ]
        refine takeD (i := 49) (v := .pointer (some ⟨X, 1, none⟩)) (some 176) rfl rfl (by kernel_rfl) (by kernel_rfl) (by kernel_rfl) (fun _ _ _ h => h) (Or.inl ⟨by rfl, ?_⟩) hS1 ?_
        · rintro w' hq
          go_simp
        try simp only [Act.put, List.setIfInBounds_toArray, List.set_cons_zero, List.set_cons_succ]
        refine takeD (i := 50) (v := .pointer (some ⟨g, 0, none⟩)) (some 177) rfl rfl (by kernel_rfl) (by kernel_rfl) (by kernel_rfl) (fun _ _ _ h => h) (Or.inl ⟨by rfl, ?_⟩) hS1 ?_
        · rintro w' hq
          obtain ⟨⟨_, _, _, _, hq1⟩, hq2, hq3⟩ := hq
          obtain ⟨x0, x1, x2, x3, x4, x5, x6, x7⟩ := hq1.cells
          go_simp
        try simp only [Act.put, List.setIfInBounds_toArray, List.set_cons_zero, List.set_cons_succ]
        refine takeD (i := 52) (v := .pointer (some ⟨X, 0, none⟩)) (some 179) rfl rfl (by kernel_rfl) (by kernel_rfl) (by kernel_rfl) (fun _ _ _ h => h) (Or.inl ⟨by rfl, ?_⟩) hS1 ?_
        · rintro w' hq
          go_simp
        try simp only [Act.put, List.setIfInBounds_toArray, List.set_cons_zero, List.set_cons_succ]
        refine takeD (i := 53) (v := .pointer (some ⟨X, 0, none⟩)) (some 180) rfl rfl (by kernel_rfl) (by kernel_rfl) (by kernel_rfl) (fun _ _ _ h => h) (Or.inl ⟨by rfl, ?_⟩) hS1 ?_
        · rintro w' hq
          go_simp
        try simp only [Act.put, List.setIfInBounds_toArray, List.set_cons_zero, List.set_cons_succ]
        refine takeD (i := 54) (v := .pointer (some ⟨X, 3, none⟩)) (some 181) rfl rfl (by kernel_rfl) (by kernel_rfl) (by kernel_rfl) (fun _ _ _ h => h) (Or.inl ⟨by rfl, ?_⟩) hS1 ?_
        · rintro w' hq
          go_simp
        try simp only [Act.put, List.setIfInBounds_toArray, List.set_cons_zero, List.set_cons_succ]
        refine takeD (i := 55) (v := .pointer (some ⟨h, 0, none⟩)) (some 182) rfl rfl (by kernel_rfl) (by kernel_rfl) (by kernel_rfl) (fun _ _ _ h => h) (Or.inl ⟨by rfl, ?_⟩) hS1 ?_
        · rintro w' hq
          obtain ⟨⟨_, _, _, _, hq1⟩, hq2, hq3⟩ := hq
          obtain ⟨x0, x1, x2, x3, x4, x5, x6, x7⟩ := hq1.cells
          go_simp
        try simp only [Act.put, List.setIfInBounds_toArray, List.set_cons_zero, List.set_cons_succ]
        refine wpAnyH_ready (rs := [51]) (by kernel_rfl) (by simp) ?_
        refine AllReadyH.cons rfl (fun K hK => ?_) AllReadyH.nil
        try rw [if_pos (by rfl)]
        go_simp
        refine (gBoot hE.cg.gb).mono ?_
        rintro en wx ⟨rfl, hw⟩
        replace hw := hw.symm
        subst hw
        refine hK.out _ _ hS1 (fun _ => ?_)
        clear hK K
        try simp only [Act.put, List.setIfInBounds_toArray, List.set_cons_zero, List.set_cons_succ]
        refine wpAnyH_ready (rs := [56]) (by kernel_rfl) (by simp) ?_
        refine AllReadyH.cons rfl (fun K hK => ?_) AllReadyH.nil
        try rw [if_pos (by rfl)]
        go_simp
        refine (rgBoot hE.rg).mono ?_
        rintro en wx ⟨rfl, hw⟩
        replace hw := hw.symm
        subst hw
        refine hK.out _ _ hS1 (fun _ => ?_)
        clear hK K
        try simp only [Act.put, List.setIfInBounds_toArray, List.set_cons_zero, List.set_cons_succ]
        refine takeD (i := 57) (v := .bool false) (some 184) rfl rfl (by kernel_rfl) (by kernel_rfl) (by kernel_rfl) (fun _ _ _ h => h) (Or.inl ⟨by rfl, ?_⟩) hS1 ?_
        · rintro w' hq
          go_simp
        try simp only [Act.put, List.setIfInBounds_toArray, List.set_cons_zero, List.set_cons_succ]
        refine takeD (i := 58) (v := .bool false) (some 185) rfl rfl (by kernel_rfl) (by kernel_rfl) (by kernel_rfl) (fun _ _ _ h => h) (Or.inl ⟨by rfl, ?_⟩) hS1 ?_
        · rintro w' hq
          go_simp
        try simp only [Act.put, List.setIfInBounds_toArray, List.set_cons_zero, List.set_cons_succ]
        refine takeD (i := 59) (v := .bool false) (some 186) rfl rfl (by kernel_rfl) (by kernel_rfl) (by kernel_rfl) (fun _ _ _ h => h) (Or.inl ⟨by rfl, ?_⟩) hS1 ?_
        · rintro w' hq
          go_simp
        try simp only [Act.put, List.setIfInBounds_toArray, List.set_cons_zero, List.set_cons_succ]
        refine takeD (i := 60) (v := .agg #[.int .i64 yk, .int .i64 yt, .int .i64 yf, .int .i64 yh, .int .i64 yp, .int .i64 yo, .int .i64 ys, .int .i64 ya, .slice yA yn yc]) (some 187) rfl rfl (by kernel_rfl) (by kernel_rfl) (by kernel_rfl) (fun _ _ _ h => h) (Or.inl ⟨by rfl, ?_⟩) hS1 ?_
        · rintro w' hq
          obtain ⟨m0, m1, m2, m3, m4, m5, m6, m7, m8⟩ := seg_nine hq.2.1
          go_simp
        try simp only [Act.put, List.setIfInBounds_toArray, List.set_cons_zero, List.set_cons_succ]
        refine takeD (i := 61) (v := .agg #[.int .i64 yk, .int .i64 yt, .int .i64 yf, .int .i64 yh, .int .i64 yp, .int .i64 yo, .int .i64 ys, .int .i64 ya, .slice yA yn yc]) (some 188) rfl rfl (by kernel_rfl) (by kernel_rfl) (by kernel_rfl) (fun _ _ _ h => h) (Or.inl ⟨by rfl, ?_⟩) hS1 ?_
        · rintro w' hq
          obtain ⟨m0, m1, m2, m3, m4, m5, m6, m7, m8⟩ := seg_nine hq.2.2
          go_simp
        try simp only [Act.put, List.setIfInBounds_toArray, List.set_cons_zero, List.set_cons_succ]
        refine wpAnyH_ready (rs := [62]) (by kernel_rfl) (by simp) ?_
        refine AllReadyH.cons rfl (fun K hK => ?_) AllReadyH.nil
        try rw [if_pos (by rfl)]
        go_simp
        refine (same_self ⟨yk, yt, yf, yh, yp, yo, ys, ya, yA, yn, yc⟩ hbare _).mono ?_
        rintro en u6 ⟨rfl, hb6⟩
        have hE6 := hE.below hb6
        have hS6 : (fun Y : World => (∃ (b : Int) (q : Int) (E : Int) (y : Sv), EN W Y X c g d h a0 a1 b q b q b0 b1 E E y) ∧ Vb 31 Y za [.int .i64 yk, .int .i64 yt, .int .i64 yf, .int .i64 yh, .int .i64 yp, .int .i64 yo, .int .i64 ys, .int .i64 ya, .slice yA yn yc] ∧ Vb 31 Y zb [.int .i64 yk, .int .i64 yt, .int .i64 yf, .int .i64 yh, .int .i64 yp, .int .i64 yo, .int .i64 ys, .int .i64 ya, .slice yA yn yc]) u6 := ⟨⟨_, _, _, _, hE6⟩, hS1.2.1.below hb6 hS1.2.1.lt, hS1.2.2.below hb6 hS1.2.2.lt⟩
        refine hK.out _ _ hS6 (fun _ => ?_)
        clear hK K
        try simp only [Act.put, List.setIfInBounds_toArray, List.set_cons_zero, List.set_cons_succ]
        refine takeD (i := 63) (v := .bool false) (some 190) rfl rfl (by kernel_rfl) (by kernel_rfl) (by kernel_rfl) (fun _ _ _ h => h) (Or.inl ⟨by rfl, ?_⟩) hS6 ?_
        · rintro w' hq
          go_simp
        try simp only [Act.put, List.setIfInBounds_toArray, List.set_cons_zero, List.set_cons_succ]
        refine takeD (i := 64) (v := .bool false) (some 191) rfl rfl (by kernel_rfl) (by kernel_rfl) (by kernel_rfl) (fun _ _ _ h => h) (Or.inl ⟨by rfl, ?_⟩) hS6 ?_
        · rintro w' hq
          go_simp
        try simp only [Act.put, List.setIfInBounds_toArray, List.set_cons_zero, List.set_cons_succ]
        refine takeD (i := 65) (v := .bool false) (some 192) rfl rfl (by kernel_rfl) (by kernel_rfl) (by kernel_rfl) (fun _ _ _ h => h) (Or.inl ⟨by rfl, ?_⟩) hS6 ?_
        · rintro w' hq
          go_simp
        try simp only [Act.put, List.setIfInBounds_toArray, List.set_cons_zero, List.set_cons_succ]
        refine takeD (i := 66) (v := .bool B0) (some 193) rfl rfl (by kernel_rfl) (by kernel_rfl) (by kernel_rfl) (fun _ _ _ h => h) (Or.inl ⟨by rfl, ?_⟩) hS6 ?_
        · rintro w' hq
          go_simp
        try simp only [Act.put, List.setIfInBounds_toArray, List.set_cons_zero, List.set_cons_succ]
        refine takeD (i := 67) (v := .bool B0) (some 194) rfl rfl (by kernel_rfl) (by kernel_rfl) (by kernel_rfl) (fun _ _ _ h => h) (Or.inl ⟨by rfl, ?_⟩) hS6 ?_
        · rintro w' hq
          go_simp
        try simp only [Act.put, List.setIfInBounds_toArray, List.set_cons_zero, List.set_cons_succ]
        refine takeD (i := 68) (v := .bool false) (some 195) rfl rfl (by kernel_rfl) (by kernel_rfl) (by kernel_rfl) (fun _ _ _ h => h) (Or.inl ⟨by rfl, ?_⟩) hS6 ?_
        · rintro w' hq
          go_simp
        try simp only [Act.put, List.setIfInBounds_toArray, List.set_cons_zero, List.set_cons_succ]
        refine takeD (i := 69) (v := .bool false) (some 196) rfl rfl (by kernel_rfl) (by kernel_rfl) (by kernel_rfl) (fun _ _ _ h => h) (Or.inl ⟨by rfl, ?_⟩) hS6 ?_
        · rintro w' hq
          go_simp
        try simp only [Act.put, List.setIfInBounds_toArray, List.set_cons_zero, List.set_cons_succ]
        refine wpAnyH_done (by kernel_rfl) ?_ _
        have H6 := Kp.mk hE6
        clear hE hE6 hS1 hS6 hb6 hbare
        go_wp2_with fail
        go_roundw
        case rel => exact ⟨i + 1, b2, q2, E2, y2, by rw [HI2.out.2.2], Kp.mk ⟨HI2.out.1, HI2.out.2.1⟩, H6⟩
        case measure => exact meas101 HI2.out.2.1
end
theorem hailPlays_walk (z0 z1 : List Int) (ds : List DoH) (A : Option Addr) (n c : Nat) (W : World) (l0 : z0.length = 2) (w0 : ∀ z ∈ z0, (Lit.int .i64 z).wf = true) (l1 : z1.length = 2) (w1 : ∀ z ∈ z1, (Lit.int .i64 z).wf = true) (rd : Dh W W.heap.size A n c ds) : Calls Try.prog 3 #[.agg (z0.map (Value.int .i64)).toArray, .agg (z1.map (Value.int .i64)).toArray, .slice A n c] W fun en w' => en = .returned (.bool true) ∧ Below W.heap.size W w' := by
  obtain ⟨a0, a1, rfl⟩ : ∃ a b, z0 = [a, b] := by
    match z0, l0 with
    | [a, b], _ => exact ⟨a, b, rfl⟩
  obtain ⟨b0, b1, rfl⟩ : ∃ a b, z1 = [a, b] := by
    match z1, l1 with
    | [a, b], _ => exact ⟨a, b, rfl⟩
  exact hailPlays_any a0 a1 b0 b1 rd
end Go.Proofs.Ytomjnpjabfnlbaa.Oct
