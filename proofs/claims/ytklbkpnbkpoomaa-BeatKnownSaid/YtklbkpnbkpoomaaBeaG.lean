/- Layer 15 (beat): the document's beat; both beats beside each other. -/
import Derived.Test.YtklbkpnbkpoomaaBeaD
import Derived.BigRegion
import Derived.ChangeAlike
import Derived.RegionTactic
namespace Go.Proofs.Ytklbkpnbkpoomaa.Oct
open Go.RowKit
set_option linter.unusedVariables false
set_option linter.unusedSimpArgs false
theorem tickI {n : Int} (h0 : 0 ≤ n) (h1 : n ≤ 9007199254740991) : tickB n = true := decide_eq_true ⟨h0, h1⟩
/-- The document's beat in memory. -/
def Rb (w : World) (y : Nat) (f c b wt : Int) (u : Nat) : Prop := Vb 47 w y [.int .i64 f, .int .i64 c, .bool (decide (0 < b)), .int .i64 b, .int .i64 wt, .int .i64 u]
section
variable {w w' : World} {y : Nat} {f c b wt : Int} {u : Nat}
set_option maxRecDepth 100000 in
theorem rnew_yes (w : World) (f c : Int) (h : waitsB f c = true) : Calls Try.prog 19 #[.int .i64 f, .int .i64 c] w fun e w' => e = .returned (.tuple #[.pointer (some ⟨w.heap.size, 0, none⟩), .int .i64 0]) ∧ Rb w' w.heap.size f c 0 0 0 ∧ Below w.heap.size w w' := by
  have h := of_decide_eq_true h
  have HN := Kp.mk (And.intro (Vb.new 47 w [.int .i64 f, .int .i64 c, .bool false, .int .i64 0, .int .i64 0, .int .i64 0]) (below_alloc w (.cells #[.int .i64 f, .int .i64 c, .bool false, .int .i64 0, .int .i64 0, .int .i64 0] 47)))
  have h1 : ¬ f < 1 := by omega
  have h2 : ¬ (1000 : Int) < f := by omega
  have h3 : ¬ c < f := by omega
  have h4 : ¬ (10000 : Int) < c := by omega
  clear h
  go_enter Try.func19, Try.ntmps19
  go_wp2_with fail
  go_ret2
  exact ⟨rfl, HN.out.1, HN.out.2⟩
set_option maxRecDepth 100000 in
theorem rnew_no (w : World) (f c : Int) (h : waitsB f c = false) : Calls Try.prog 19 #[.int .i64 f, .int .i64 c] w fun e w' => e = .returned (.tuple #[.pointer none, .int .i64 2]) ∧ w' = w := by
  have h := of_decide_eq_false h
  by_cases h1 : f < 1
  · clear h
    go_enter Try.func19, Try.ntmps19
    go_wp2_with fail
    go_ret2
    exact ⟨rfl, rfl⟩
  by_cases h2 : (1000 : Int) < f
  · clear h
    go_enter Try.func19, Try.ntmps19
    go_wp2_with fail
    go_ret2
    exact ⟨rfl, rfl⟩
  by_cases h3 : c < f
  · clear h
    go_enter Try.func19, Try.ntmps19
    go_wp2_with fail
    go_ret2
    exact ⟨rfl, rfl⟩
  have h4 : (10000 : Int) < c := by omega
  clear h
  go_enter Try.func19, Try.ntmps19
  go_wp2_with fail
  go_ret2
  exact ⟨rfl, rfl⟩
set_option maxRecDepth 100000 in
theorem rat_any (h : Rb w y f c b wt u) : Calls Try.prog 24 #[.pointer (some ⟨y, 0, none⟩)] w fun e w' => e = .returned (.int .i64 b) ∧ w' = w := by
  have c0 := Vb.cell h 3 rfl
  clear h
  go_enter Try.func24, Try.ntmps24
  go_wp2_with fail
  go_ret
  exact ⟨rfl, rfl⟩
set_option maxRecDepth 100000 in
theorem rtries_any (h : Rb w y f c b wt u) : Calls Try.prog 25 #[.pointer (some ⟨y, 0, none⟩)] w fun e w' => e = .returned (.int .i64 u) ∧ w' = w := by
  have c0 := Vb.cell h 5 rfl
  clear h
  go_enter Try.func25, Try.ntmps25
  go_wp2_with fail
  go_ret
  exact ⟨rfl, rfl⟩
set_option maxRecDepth 100000 in
theorem rruns_any (h : Rb w y f c b wt u) : Calls Try.prog 23 #[.pointer (some ⟨y, 0, none⟩)] w fun e w' => e = .returned (.bool (decide (0 < b))) ∧ w' = w := by
  have c0 := Vb.cell h 2 rfl
  clear h
  go_enter Try.func23, Try.ntmps23
  go_wp2_with fail
  go_ret
  exact ⟨rfl, rfl⟩
set_option maxRecDepth 100000 in
theorem rstop_any (h : Rb w y f c b wt u) : Calls Try.prog 21 #[.pointer (some ⟨y, 0, none⟩)] w fun e w' => e = .returned (.tuple #[]) ∧ Rb w' y f c 0 wt 0 ∧ w.grownBy w' (some y) := by
  have c0 := Vb.cell h 2 rfl
  have f0 := Vb.free h 2
  have h2 := Vb.set h 2 (.bool false)
  have h3 := Vb.set h2 3 (.int .i64 0)
  have H4 := Kp.mk (Vb.set h3 5 (.int .i64 0))
  have HG := Kp.mk (((grownBy_set w y 2 (.bool false)).trans (grownBy_set _ y 3 (.int .i64 0))).trans (grownBy_set _ y 5 (.int .i64 0)))
  have d0 := Vb.cell h2 3 rfl
  have g0 := Vb.free h2 3
  have d1 := Vb.cell h3 5 rfl
  have g1 := Vb.free h3 5
  clear h h2 h3
  go_enter Try.func21, Try.ntmps21
  go_wp2_with fail
  go_end0
  exact ⟨rfl, H4.out, HG.out⟩
set_option maxRecDepth 100000 in
theorem rstart_no (w : World) (y : Nat) (n : Int) (hn : tickB n = false) : Calls Try.prog 20 #[.pointer (some ⟨y, 0, none⟩), .int .i64 n] w fun e w' => e = .returned (.int .i64 9) ∧ w' = w := by
  by_cases h0 : n < 0
  · go_enter Try.func20, Try.ntmps20
    go_wp2_with fail
    go_ret
    exact ⟨rfl, rfl⟩
  · have h1 : (9007199254740991 : Int) < n := by have := tick_no hn; omega
    clear hn
    go_enter Try.func20, Try.ntmps20
    go_wp2_with fail
    go_ret
    exact ⟨rfl, rfl⟩
set_option maxRecDepth 100000 in
theorem rstart_yes (h : Rb w y f c b wt u) (n : Int) (hn : tickB n = true) (h1 : 1 ≤ f) (h2 : f ≤ c) (h3 : c ≤ 10000) : Calls Try.prog 20 #[.pointer (some ⟨y, 0, none⟩), .int .i64 n] w fun e w' => e = .returned (.int .i64 0) ∧ Rb w' y f c (n + f) (wv f c 1) 0 ∧ w.grownBy w' (some y) := by
  have l0 : ¬ n < 0 := by have := tick_yes hn; omega
  have l1 : ¬ (9007199254740991 : Int) < n := by have := tick_yes hn; omega
  have hs : wrap64 (n + f) = n + f := by have := tick_yes hn; unfold wrap64; omega
  have hd : decide (0 < n + f) = true := decide_eq_true (by have := tick_yes hn; omega)
  have hf2 : wrap64 (2 * f) = 2 * f := by unfold wrap64; omega
  have HW := Kp.mk (show (if c < 2 * f then c else 2 * f) = wv f c 1 by rw [wv_succ]; simp only [wv]; split <;> omega)
  have c0 := Vb.cell h 2 rfl
  have f0 := Vb.free h 2
  have k2 := Vb.set h 2 (.bool true)
  have d0 := Vb.cell k2 3 rfl
  have g0 := Vb.free k2 3
  have d1 := Vb.cell k2 0 rfl
  have k3 := Vb.set k2 3 (.int .i64 (n + f))
  have HG := Kp.mk ((grownBy_set w y 2 (.bool true)).trans (grownBy_set _ y 3 (.int .i64 (n + f))))
  clear h k2 h1 h2 h3
  go_enter Try.func20, Try.ntmps20
  go_upto_region 5 with fail
  generalize (w.setCell ⟨y, 2, none⟩ (.bool true)).setCell ⟨y, 3, none⟩ (.int .i64 (n + f)) = w3 at *
  clear c0 f0 d0 g0 d1
  have c0 := Vb.cell k3 0 rfl
  have c1 := Vb.cell k3 1 rfl
  have c4 := Vb.cell k3 4 rfl
  have f4 := Vb.free k3 4
  have k4 := Vb.set k3 4 (.int .i64 (wv f c 1))
  have hbd := (Below.refl (w3.setCell ⟨y, 4, none⟩ (.int .i64 (wv f c 1))).heap.size (w3.setCell ⟨y, 4, none⟩ (.int .i64 (wv f c 1)))).drew
  have K4 := Kp.mk (Vb.below k4 hbd (Vb.lt k4))
  have HG4 := Kp.mk ((HG.out.trans (grownBy_set w3 y 4 (.int .i64 (wv f c 1)))).trans (grown_of_below hbd (some y)))
  clear k3 k4 HG hbd
  go_region
  rw [HW.out]
  clear c0 c1 c4 f4
  generalize (w3.setCell ⟨y, 4, none⟩ (.int .i64 (wv f c 1))).drew = w4 at *
  have d5 := Vb.cell K4.out 5 rfl
  have g5 := Vb.free K4.out 5
  have K5 := Kp.mk (Vb.set K4.out 5 (.int .i64 0))
  have HG5 := Kp.mk (HG4.out.trans (grownBy_set w4 y 5 (.int .i64 0)))
  clear K4 HG4
  go_wp2_with fail
  go_ret
  refine ⟨rfl, ?_, HG5.out⟩
  unfold Rb
  rw [hd]
  exact K5.out
set_option maxRecDepth 100000 in
theorem rdue_no (h : Rb w y f c b wt u) (n : Int) (hn : 0 < b ∧ tickB n = true ∧ b ≤ n → False) : Calls Try.prog 22 #[.pointer (some ⟨y, 0, none⟩), .int .i64 n] w fun e w' => e = .returned (.bool false) ∧ w' = w := by
  have c2 := Vb.cell h 2 rfl
  have c3 := Vb.cell h 3 rfl
  clear h
  by_cases h0 : 0 < b
  · have hd : decide (0 < b) = true := decide_eq_true h0
    rw [hd] at c2
    by_cases h1 : n < b
    · clear hn h0 hd
      go_enter Try.func22, Try.ntmps22
      go_wp2_with fail
      go_ret
      exact ⟨rfl, rfl⟩
    · have h2 : (9007199254740991 : Int) < n := by
        by_cases h3 : 9007199254740991 < n
        · exact h3
        · exact (hn ⟨h0, tickI (by omega) (by omega), by omega⟩).elim
      clear hn h0 hd
      go_enter Try.func22, Try.ntmps22
      go_wp2_with fail
      go_ret
      exact ⟨rfl, rfl⟩
  · have hd : decide (0 < b) = false := decide_eq_false h0
    rw [hd] at c2
    clear hn h0 hd
    go_enter Try.func22, Try.ntmps22
    go_wp2_with fail
    go_ret
    exact ⟨rfl, rfl⟩
set_option maxRecDepth 100000 in
theorem rdue_yes (h : Rb w y f c b wt u) (n : Int) (h0 : 0 < b) (hn : tickB n = true) (h1 : b ≤ n) (hu : u ≤ 10000000) (hw : 1 ≤ wt ∧ wt ≤ 10000) : Calls Try.prog 22 #[.pointer (some ⟨y, 0, none⟩), .int .i64 n] w fun e w' => e = .returned (.bool true) ∧ Rb w' y f c (n + wt) (min (2 * wt) c) (u + 1) ∧ w.grownBy w' (some y) := by
  have l0 : ¬ n < b := by omega
  have l1 : ¬ (9007199254740991 : Int) < n := by have := tick_yes hn; omega
  have hs : wrap64 (n + wt) = n + wt := by have := tick_yes hn; unfold wrap64; omega
  have hd : decide (0 < n + wt) = true := decide_eq_true (by have := tick_yes hn; omega)
  have hf2 : wrap64 (2 * wt) = 2 * wt := by unfold wrap64; omega
  have hu1 : wrap64 ((u : Int) + 1) = (u : Int) + 1 := by unfold wrap64; omega
  have HW := Kp.mk (show (if c < 2 * wt then c else 2 * wt) = min (2 * wt) c by split <;> omega)
  have HU := Kp.mk (show ((u + 1 : Nat) : Int) = (u : Int) + 1 by omega)
  have hb : decide (0 < b) = true := decide_eq_true h0
  have h2 : Vb 47 w y [.int .i64 f, .int .i64 c, .bool true, .int .i64 b, .int .i64 wt, .int .i64 u] := by have := h; unfold Rb at this; rwa [hb] at this
  have c2 := Vb.cell h2 2 rfl
  have c3 := Vb.cell h2 3 rfl
  have c5 := Vb.cell h2 5 rfl
  have f5 := Vb.free h2 5
  have k3 := Vb.set h2 5 (.int .i64 ((u : Int) + 1))
  have d4 := Vb.cell k3 4 rfl
  have d3 := Vb.cell k3 3 rfl
  have g3 := Vb.free k3 3
  have k4 := Vb.set k3 3 (.int .i64 (n + wt))
  have HG := Kp.mk ((grownBy_set w y 5 (.int .i64 ((u : Int) + 1))).trans (grownBy_set _ y 3 (.int .i64 (n + wt))))
  clear h h2 hb h0 h1 hn hu hw k3
  go_enter Try.func22, Try.ntmps22
  go_upto_region 5 with fail
  generalize (w.setCell ⟨y, 5, none⟩ (.int .i64 ((u : Int) + 1))).setCell ⟨y, 3, none⟩ (.int .i64 (n + wt)) = w3 at *
  clear c2 c3 c5 f5 d4 d3 g3
  have c1 := Vb.cell k4 1 rfl
  have c4 := Vb.cell k4 4 rfl
  have f4 := Vb.free k4 4
  have k5 := Vb.set k4 4 (.int .i64 (min (2 * wt) c))
  have hbd := (Below.refl (w3.setCell ⟨y, 4, none⟩ (.int .i64 (min (2 * wt) c))).heap.size (w3.setCell ⟨y, 4, none⟩ (.int .i64 (min (2 * wt) c)))).drew
  have K5 := Kp.mk (Vb.below k5 hbd (Vb.lt k5))
  have HG5 := Kp.mk ((HG.out.trans (grownBy_set w3 y 4 (.int .i64 (min (2 * wt) c)))).trans (grown_of_below hbd (some y)))
  clear k4 k5 HG hbd
  go_region
  rw [HW.out]
  clear c1 c4 f4
  go_wp2_with fail
  go_ret
  refine ⟨rfl, ?_, HG5.out⟩
  unfold Rb
  rw [hd, HU.out]
  exact K5.out
end
/-- Both beats beside each other. -/
structure PB (W w : World) (x y : Nat) (f c a b wt : Int) (t u : Nat) : Prop where
  p : Bt w x f c a t
  r : Rb w y f c b wt u
  xn : W.heap.size ≤ x
  yn : W.heap.size ≤ y
  old : Below W.heap.size W w
section
variable {W w w' : World} {x y : Nat} {f c a b wt : Int} {t u : Nat}
theorem PB.ne (h : PB W w x y f c a b wt t u) : x ≠ y := vb_ne h.p.own h.r (by decide)
theorem PB.stepP (h : PB W w x y f c a b wt t u) {a' : Int} {t' : Nat} (hb : Bt w' x f c a' t') (hg : w.grownBy w' (some x)) : PB W w' x y f c a' b wt t' u := ⟨hb, Vb.grown h.r hg h.ne.symm, h.xn, h.yn, below_grown h.old hg h.old.size h.xn⟩
theorem PB.stepR (h : PB W w x y f c a b wt t u) {b' wt' : Int} {u' : Nat} (hb : Rb w' y f c b' wt' u') (hg : w.grownBy w' (some y)) : PB W w' x y f c a b' wt' t u' := ⟨h.p.grown hg h.ne, hb, h.xn, h.yn, below_grown h.old hg h.old.size h.yn⟩
theorem PB.below (h : PB W w x y f c a b wt t u) (hb : Below w.heap.size w w') : PB W w' x y f c a b wt t u := ⟨h.p.below hb h.p.own.lt, Vb.below h.r hb (Vb.lt h.r), h.xn, h.yn, h.old.trans (hb.mono h.old.size)⟩
theorem PB.start (h : PB W w x y f c a b wt t u) (n : Int) (hn : tickB n = true) : Calls Try.prog 9 #[.pointer (some ⟨x, 0, none⟩), .int .i64 n] w fun e w' => e = .returned (.int .i64 0) ∧ PB W w' x y f c (n + f) b wt 0 u ∧ w.grownBy w' (some x) :=
  (bstart_yes h.p n hn).mono fun _ _ ⟨h1, h2, h3⟩ => ⟨h1, h.stepP h2 h3, h3⟩
theorem PB.startR (h : PB W w x y f c a b wt t u) (n : Int) (hn : tickB n = true) : Calls Try.prog 20 #[.pointer (some ⟨y, 0, none⟩), .int .i64 n] w fun e w' => e = .returned (.int .i64 0) ∧ PB W w' x y f c a (n + f) (wv f c 1) t 0 ∧ w.grownBy w' (some y) :=
  (rstart_yes h.r n hn h.p.r1 h.p.r2 h.p.r3).mono fun _ _ ⟨h1, h2, h3⟩ => ⟨h1, h.stepR h2 h3, h3⟩
theorem PB.due (h : PB W w x y f c a b wt t u) (n : Int) (h0 : 0 < a) (hn : tickB n = true) (h1 : a ≤ n) (ht : t ≤ 10000000) : Calls Try.prog 10 #[.pointer (some ⟨x, 0, none⟩), .int .i64 n] w fun e w' => e = .returned (.bool true) ∧ PB W w' x y f c (n + wv f c (t + 1)) b wt (t + 1) u ∧ w.grownBy w' (some x) :=
  (bdue_yes h.p n h0 hn h1 ht).mono fun _ _ ⟨h1, h2, h3⟩ => ⟨h1, h.stepP h2 h3, h3⟩
theorem PB.dueR (h : PB W w x y f c a b wt t u) (n : Int) (h0 : 0 < b) (hn : tickB n = true) (h1 : b ≤ n) (ht : u ≤ 10000000) (hw : 1 ≤ wt ∧ wt ≤ 10000) : Calls Try.prog 22 #[.pointer (some ⟨y, 0, none⟩), .int .i64 n] w fun e w' => e = .returned (.bool true) ∧ PB W w' x y f c a (n + wt) (min (2 * wt) c) t (u + 1) ∧ w.grownBy w' (some y) :=
  (rdue_yes h.r n h0 hn h1 ht hw).mono fun _ _ ⟨h1, h2, h3⟩ => ⟨h1, h.stepR h2 h3, h3⟩
theorem PB.stop (h : PB W w x y f c a b wt t u) : Calls Try.prog 14 #[.pointer (some ⟨x, 0, none⟩)] w fun e w' => e = .returned (.tuple #[]) ∧ PB W w' x y f c 0 b wt 0 u :=
  (bstop_any h.p).mono fun _ _ ⟨h1, h2, h3⟩ => ⟨h1, h.stepP h2 h3⟩
theorem PB.stopR (h : PB W w x y f c a b wt t u) : Calls Try.prog 21 #[.pointer (some ⟨y, 0, none⟩)] w fun e w' => e = .returned (.tuple #[]) ∧ PB W w' x y f c a 0 wt t 0 :=
  (rstop_any h.r).mono fun _ _ ⟨h1, h2, h3⟩ => ⟨h1, h.stepR h2 h3⟩
end
end Go.Proofs.Ytklbkpnbkpoomaa.Oct
