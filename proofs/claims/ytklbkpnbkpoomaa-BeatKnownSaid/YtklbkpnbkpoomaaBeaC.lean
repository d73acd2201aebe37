/- Contracts of layer 15 (beat): New, Start, Stop, Due, Runs, At, Tries; beats that are none. -/
import Derived.Test.YtklbkpnbkpoomaaBeaB
namespace Go.Proofs.Ytklbkpnbkpoomaa.Oct
open Go.RowKit
set_option linter.unusedVariables false
set_option linter.unusedSimpArgs false

/-- A tick. -/
def tickB (n : Int) : Bool := decide (0 ≤ n ∧ n ≤ 9007199254740991)
theorem tick_yes {n : Int} (h : tickB n = true) : 0 ≤ n ∧ n ≤ 9007199254740991 := of_decide_eq_true h
theorem tick_no {n : Int} (h : tickB n = false) : n < 0 ∨ 9007199254740991 < n := by have := of_decide_eq_false h; omega
theorem isTick_any (n : Int) (w : World) : Calls Try.prog 17 #[.int .i64 n] w fun e w' => e = .returned (.bool (tickB n)) ∧ w' = w := by
  unfold tickB
  by_cases h0 : 0 ≤ n
  · by_cases h1 : n ≤ 9007199254740991
    · rw [decide_eq_true ⟨h0, h1⟩]
      go_enter Try.func17, Try.ntmps17
      go_wp2_with fail
      go_ret
      exact ⟨by simp [h1], rfl⟩
    · rw [decide_eq_false (fun e => h1 e.2)]
      go_enter Try.func17, Try.ntmps17
      go_wp2_with fail
      go_ret
      exact ⟨by simp [h1], rfl⟩
  · rw [decide_eq_false (fun e => h0 e.1)]
    go_enter Try.func17, Try.ntmps17
    go_wp2_with fail
    go_ret
    exact ⟨rfl, rfl⟩
/-- Waits that may be. -/
def waitsB (f c : Int) : Bool := decide ((1 ≤ f ∧ f ≤ 1000) ∧ f ≤ c ∧ c ≤ 10000)
/-- A beat in memory: its waits, the tick at which it is due, its tries. -/
structure Bt (w : World) (x : Nat) (f c a : Int) (t : Nat) : Prop where
  own : Vb 35 w x [.int .i64 f, .int .i64 c, .int .i64 a, .int .i64 t]
  r1 : 1 ≤ f
  r2 : f ≤ c
  r3 : c ≤ 10000
section
variable {w w' : World} {x r B : Nat} {f c a : Int} {t : Nat}
theorem Bt.below (h : Bt w x f c a t) (hb : Below B w w') (hB : x < B) : Bt w' x f c a t := ⟨h.own.below hb hB, h.r1, h.r2, h.r3⟩
theorem Bt.grown (h : Bt w x f c a t) (hg : w.grownBy w' (some r)) (hne : x ≠ r) : Bt w' x f c a t := ⟨h.own.grown hg hne, h.r1, h.r2, h.r3⟩
theorem Bt.wv (h : Bt w x f c a t) (i : Nat) : 1 ≤ wv f c i ∧ wv f c i ≤ 10000 := by have := wv_pos h.r1 h.r2 i; have := h.r3; omega
set_option maxRecDepth 100000 in
theorem bnew_yes (w : World) (f c : Int) (h : waitsB f c = true) : Calls Try.prog 8 #[.int .i64 f, .int .i64 c] w fun e w' => e = .returned (.tuple #[.pointer (some ⟨w.heap.size, 0, none⟩), .int .i64 0]) ∧ Bt w' w.heap.size f c 0 0 ∧ Below w.heap.size w w' := by
  have h := of_decide_eq_true h
  have HN := Kp.mk (And.intro (Vb.new 35 w [.int .i64 f, .int .i64 c, .int .i64 0, .int .i64 0]) (And.intro (below_alloc w (.cells #[.int .i64 f, .int .i64 c, .int .i64 0, .int .i64 0] 35)) h))
  have h1 : ¬ f < 1 := by omega
  have h2 : ¬ (1000 : Int) < f := by omega
  have h3 : ¬ c < f := by omega
  have h4 : ¬ (10000 : Int) < c := by omega
  clear h
  go_enter Try.func8, Try.ntmps8
  go_wp2_with fail
  go_ret2
  exact ⟨rfl, ⟨HN.out.1, HN.out.2.2.1.1, HN.out.2.2.2.1, HN.out.2.2.2.2⟩, HN.out.2.1⟩
set_option maxRecDepth 100000 in
theorem bnew_no (w : World) (f c : Int) (h : waitsB f c = false) : Calls Try.prog 8 #[.int .i64 f, .int .i64 c] w fun e w' => e = .returned (.tuple #[.pointer none, .int .i64 2]) ∧ w' = w := by
  have h := of_decide_eq_false h
  by_cases h1 : f < 1
  · clear h
    go_enter Try.func8, Try.ntmps8
    go_wp2_with fail
    go_ret2
    exact ⟨rfl, rfl⟩
  by_cases h2 : (1000 : Int) < f
  · clear h
    go_enter Try.func8, Try.ntmps8
    go_wp2_with fail
    go_ret2
    exact ⟨rfl, rfl⟩
  by_cases h3 : c < f
  · clear h
    go_enter Try.func8, Try.ntmps8
    go_wp2_with fail
    go_ret2
    exact ⟨rfl, rfl⟩
  have h4 : (10000 : Int) < c := by omega
  clear h
  go_enter Try.func8, Try.ntmps8
  go_wp2_with fail
  go_ret2
  exact ⟨rfl, rfl⟩
set_option maxRecDepth 100000 in
theorem bNone_no (h : Bt w x f c a t) : Calls Try.prog 16 #[.pointer (some ⟨x, 0, none⟩)] w fun e w' => e = .returned (.bool false) ∧ w' = w := by
  have c0 := h.own.cell 0 rfl
  have hq : (f == 0) = false := by have := h.r1; simp; omega
  clear h
  go_enter Try.func16, Try.ntmps16
  go_wp2_with fail
  go_ret
  exact ⟨rfl, rfl⟩
set_option maxRecDepth 100000 in
theorem bat_any (h : Bt w x f c a t) : Calls Try.prog 11 #[.pointer (some ⟨x, 0, none⟩)] w fun e w' => e = .returned (.int .i64 a) ∧ w' = w := by
  have HN := bNone_no h
  have c0 := h.own.cell 2 rfl
  clear h
  go_enter Try.func11, Try.ntmps11
  go_wp2_with (first | (refine HN.mono ?_; rintro e w1 ⟨rfl, rfl⟩))
  go_ret
  exact ⟨rfl, rfl⟩
set_option maxRecDepth 100000 in
theorem btries_any (h : Bt w x f c a t) : Calls Try.prog 12 #[.pointer (some ⟨x, 0, none⟩)] w fun e w' => e = .returned (.int .i64 t) ∧ w' = w := by
  have HN := bNone_no h
  have c0 := h.own.cell 3 rfl
  clear h
  go_enter Try.func12, Try.ntmps12
  go_wp2_with (first | (refine HN.mono ?_; rintro e w1 ⟨rfl, rfl⟩))
  go_ret
  exact ⟨rfl, rfl⟩
set_option maxRecDepth 100000 in
theorem bruns_any (h : Bt w x f c a t) : Calls Try.prog 13 #[.pointer (some ⟨x, 0, none⟩)] w fun e w' => e = .returned (.bool (decide (0 < a))) ∧ w' = w := by
  have HA := bat_any h
  clear h
  go_enter Try.func13, Try.ntmps13
  go_wp2_with (first | (refine HA.mono ?_; rintro e w1 ⟨rfl, rfl⟩))
  go_ret
  exact ⟨rfl, rfl⟩
set_option maxRecDepth 100000 in
theorem bstop_any (h : Bt w x f c a t) : Calls Try.prog 14 #[.pointer (some ⟨x, 0, none⟩)] w fun e w' => e = .returned (.tuple #[]) ∧ Bt w' x f c 0 0 ∧ w.grownBy w' (some x) := by
  have HN := bNone_no h
  have c0 := h.own.cell 2 rfl
  have c1 := h.own.cell 3 rfl
  have f0 := h.own.free 2
  have f1 := h.own.free 3
  have h2 := h.own.set 2 (.int .i64 0)
  have H3 := Kp.mk (h2.set 3 (.int .i64 0))
  have HG := Kp.mk ((grownBy_set w x 2 (.int .i64 0)).trans (grownBy_set _ x 3 (.int .i64 0)))
  have HR := Kp.mk (And.intro h.r1 (And.intro h.r2 h.r3))
  have d1 : (w.setCell ⟨x, 2, none⟩ (.int .i64 0)).cell? ⟨x, 3, none⟩ = some (.int .i64 t) := h2.cell 3 rfl
  have g1 := h2.free 3
  clear h h2
  go_enter Try.func14, Try.ntmps14
  go_wp2_with (first | (refine HN.mono ?_; rintro e w1 ⟨rfl, rfl⟩))
  go_end0
  exact ⟨rfl, ⟨H3.out, HR.out.1, HR.out.2.1, HR.out.2.2⟩, HG.out⟩
set_option maxRecDepth 100000 in
theorem bstart_no (h : Bt w x f c a t) (n : Int) (hn : tickB n = false) : Calls Try.prog 9 #[.pointer (some ⟨x, 0, none⟩), .int .i64 n] w fun e w' => e = .returned (.int .i64 9) ∧ w' = w := by
  have HN := bNone_no h
  have HT := isTick_any n w
  rw [hn] at HT
  clear h
  go_enter Try.func9, Try.ntmps9
  go_wp2_with (first | (refine HN.mono ?_; rintro e w1 ⟨rfl, rfl⟩) | (refine HT.mono ?_; rintro e w1 ⟨rfl, rfl⟩))
  go_ret
  exact ⟨rfl, rfl⟩
set_option maxRecDepth 100000 in
theorem bstart_yes (h : Bt w x f c a t) (n : Int) (hn : tickB n = true) : Calls Try.prog 9 #[.pointer (some ⟨x, 0, none⟩), .int .i64 n] w fun e w' => e = .returned (.int .i64 0) ∧ Bt w' x f c (n + f) 0 ∧ w.grownBy w' (some x) := by
  have HN := bNone_no h
  have HT := isTick_any n w
  rw [hn] at HT
  have HR := Kp.mk (And.intro h.r1 (And.intro h.r2 h.r3))
  have c1 := h.own.cell 3 rfl
  have f1 := h.own.free 3
  have h2 := h.own.set 3 (.int .i64 0)
  have H2 := Kp.mk h2
  have HG := Kp.mk (grownBy_set w x 3 (.int .i64 0))
  have HW := wait_any (t := 0) h2 h.r1 h.r2 h.r3 (by omega)
  have hs : wrap64 (n + f) = n + f := by have := tick_yes hn; have := h.r1; have := h.r2; have := h.r3; unfold wrap64; omega
  clear h h2
  go_enter Try.func9, Try.ntmps9
  go_upto_region 6 with (first | (refine HN.mono ?_; rintro e w1 ⟨rfl, hw1⟩; replace hw1 := hw1.symm; subst hw1) | (refine HT.mono ?_; rintro e w1 ⟨rfl, hw1⟩; replace hw1 := hw1.symm; subst hw1))
  generalize w.setCell ⟨x, 3, none⟩ (.int .i64 0) = w2 at *
  clear c1 f1
  go_wp2_with (first | (refine HW.mono ?_; rintro e w3 ⟨rfl, hb⟩; have h3 := H2.out.below hb H2.out.lt; have d0 := h3.cell 2 rfl; have d1 := h3.free 2; have H3 := Kp.mk (h3.set 2 (.int .i64 (n + f))); have HG3 := Kp.mk ((HG.out.trans (grown_of_below hb _)).trans (grownBy_set w3 x 2 (.int .i64 (n + f)))); clear h3 hb; simp only [wv]))
  go_ret
  exact ⟨rfl, ⟨H3.out, HR.out.1, HR.out.2.1, HR.out.2.2⟩, HG3.out⟩
set_option maxRecDepth 100000 in
theorem bdue_no (h : Bt w x f c a t) (n : Int) (hn : 0 < a ∧ tickB n = true ∧ a ≤ n → False) : Calls Try.prog 10 #[.pointer (some ⟨x, 0, none⟩), .int .i64 n] w fun e w' => e = .returned (.bool false) ∧ w' = w := by
  have HU := bruns_any h
  have HT := isTick_any n w
  have c0 := h.own.cell 2 rfl
  clear h
  by_cases h0 : 0 < a
  · rw [decide_eq_true h0] at HU
    cases ht : tickB n with
    | false =>
      rw [ht] at HT
      clear hn h0 ht
      go_enter Try.func10, Try.ntmps10
      go_wp2_with (first | (refine HU.mono ?_; rintro e w1 ⟨rfl, rfl⟩) | (refine HT.mono ?_; rintro e w1 ⟨rfl, rfl⟩))
      go_ret
      exact ⟨rfl, rfl⟩
    | true =>
      rw [ht] at HT
      have h1 : n < a := by
        by_cases h2 : n < a
        · exact h2
        · exact (hn ⟨h0, ht, by omega⟩).elim
      clear hn h0 ht
      go_enter Try.func10, Try.ntmps10
      go_wp2_with (first | (refine HU.mono ?_; rintro e w1 ⟨rfl, rfl⟩) | (refine HT.mono ?_; rintro e w1 ⟨rfl, rfl⟩))
      go_ret
      exact ⟨rfl, rfl⟩
  · rw [decide_eq_false h0] at HU
    clear hn h0 HT
    go_enter Try.func10, Try.ntmps10
    go_wp2_with (first | (refine HU.mono ?_; rintro e w1 ⟨rfl, rfl⟩))
    go_ret
    exact ⟨rfl, rfl⟩
set_option maxRecDepth 100000 in
theorem bdue_yes (h : Bt w x f c a t) (n : Int) (h0 : 0 < a) (hn : tickB n = true) (h1 : a ≤ n) (ht : t ≤ 10000000) : Calls Try.prog 10 #[.pointer (some ⟨x, 0, none⟩), .int .i64 n] w fun e w' => e = .returned (.bool true) ∧ Bt w' x f c (n + wv f c (t + 1)) (t + 1) ∧ w.grownBy w' (some x) := by
  have HU := bruns_any h
  rw [decide_eq_true h0] at HU
  have HT := isTick_any n w
  rw [hn] at HT
  have HR := Kp.mk (And.intro h.r1 (And.intro h.r2 h.r3))
  have c0 := h.own.cell 2 rfl
  have c1 := h.own.cell 3 rfl
  have f1 := h.own.free 3
  have h2 := h.own.set 3 (.int .i64 ((t + 1 : Nat) : Int))
  have H2 := Kp.mk h2
  have HG := Kp.mk (grownBy_set w x 3 (.int .i64 ((t + 1 : Nat) : Int)))
  have HW := wait_any (t := t + 1) h2 h.r1 h.r2 h.r3 (by omega)
  have hv := h.wv (t + 1)
  have hs : wrap64 (n + wv f c (t + 1)) = n + wv f c (t + 1) := by have := tick_yes hn; unfold wrap64; omega
  have hi : wrap64 ((t : Int) + 1) = (t : Int) + 1 := by unfold wrap64; omega
  have hl : ¬ n < a := by omega
  have HE := Kp.mk (show ((t + 1 : Nat) : Int) = (t : Int) + 1 by omega)
  rw [HE.out] at HW HG H2
  clear h h2 hv h1 h0 hn
  go_enter Try.func10, Try.ntmps10
  go_upto_region 4 with (first | (refine HU.mono ?_; rintro e w1 ⟨rfl, hw1⟩; replace hw1 := hw1.symm; subst hw1) | (refine HT.mono ?_; rintro e w1 ⟨rfl, hw1⟩; replace hw1 := hw1.symm; subst hw1))
  generalize w.setCell ⟨x, 3, none⟩ (.int .i64 ((t : Int) + 1)) = w2 at *
  clear c0 c1 f1 hl HU HT
  go_wp2_with (first | (refine HW.mono ?_; rintro e w3 ⟨rfl, hb⟩; have h3 := H2.out.below hb H2.out.lt; have d0 := h3.cell 2 rfl; have d1 := h3.free 2; have H3 := Kp.mk (h3.set 2 (.int .i64 (n + wv f c (t + 1)))); have HG3 := Kp.mk ((HG.out.trans (grown_of_below hb _)).trans (grownBy_set w3 x 2 (.int .i64 (n + wv f c (t + 1))))); clear h3 hb))
  go_ret
  refine ⟨rfl, ⟨?_, HR.out.1, HR.out.2.1, HR.out.2.2⟩, HG3.out⟩
  rw [HE.out]
  exact H3.out
/-- No beat: nil, or a zero one. -/
def NB (w : World) (a : Option Addr) : Prop := a = none ∨ ∃ t, a = some ⟨t, 0, none⟩ ∧ Vb 35 w t [.int .i64 0, .int .i64 0, .int .i64 0, .int .i64 0]
theorem NB.below {a : Option Addr} (h : NB w a) (hb : Below w.heap.size w w') : NB w' a := h.imp id (fun ⟨t, e, hv⟩ => ⟨t, e, hv.below hb hv.lt⟩)
set_option maxRecDepth 100000 in
theorem NB.no {a : Option Addr} (h : NB w a) : Calls Try.prog 16 #[.pointer a] w fun e w' => e = .returned (.bool true) ∧ w' = w := by
  rcases h with rfl | ⟨t, rfl, hv⟩
  · go_enter Try.func16, Try.ntmps16
    go_wp2_with fail
    go_ret
    exact ⟨rfl, rfl⟩
  · have c0 := hv.cell 0 rfl
    clear hv
    go_enter Try.func16, Try.ntmps16
    go_wp2_with fail
    go_ret
    exact ⟨rfl, rfl⟩
set_option maxRecDepth 100000 in
theorem NB.at_ {a : Option Addr} (h : NB w a) : Calls Try.prog 11 #[.pointer a] w fun e w' => e = .returned (.int .i64 0) ∧ w' = w := by
  have HN := h.no
  clear h
  go_enter Try.func11, Try.ntmps11
  go_wp2_with (first | (refine HN.mono ?_; rintro e w1 ⟨rfl, rfl⟩))
  go_ret
  exact ⟨rfl, rfl⟩
set_option maxRecDepth 100000 in
theorem NB.tries {a : Option Addr} (h : NB w a) : Calls Try.prog 12 #[.pointer a] w fun e w' => e = .returned (.int .i64 0) ∧ w' = w := by
  have HN := h.no
  clear h
  go_enter Try.func12, Try.ntmps12
  go_wp2_with (first | (refine HN.mono ?_; rintro e w1 ⟨rfl, rfl⟩))
  go_ret
  exact ⟨rfl, rfl⟩
set_option maxRecDepth 100000 in
theorem NB.runs {a : Option Addr} (h : NB w a) : Calls Try.prog 13 #[.pointer a] w fun e w' => e = .returned (.bool false) ∧ w' = w := by
  have HN := h.at_
  clear h
  go_enter Try.func13, Try.ntmps13
  go_wp2_with (first | (refine HN.mono ?_; rintro e w1 ⟨rfl, rfl⟩))
  go_ret
  exact ⟨rfl, rfl⟩
set_option maxRecDepth 100000 in
theorem NB.stop {a : Option Addr} (h : NB w a) : Calls Try.prog 14 #[.pointer a] w fun e w' => e = .returned (.tuple #[]) ∧ w' = w := by
  have HN := h.no
  clear h
  go_enter Try.func14, Try.ntmps14
  go_wp2_with (first | (refine HN.mono ?_; rintro e w1 ⟨rfl, rfl⟩))
  refine bodyPost_ret (results_none rfl _ _ _) rfl ?_
  exact ⟨rfl, rfl⟩
set_option maxRecDepth 100000 in
theorem NB.start {a : Option Addr} (h : NB w a) (n : Int) : Calls Try.prog 9 #[.pointer a, .int .i64 n] w fun e w' => e = .returned (.int .i64 1) ∧ w' = w := by
  have HN := h.no
  clear h
  go_enter Try.func9, Try.ntmps9
  go_wp2_with (first | (refine HN.mono ?_; rintro e w1 ⟨rfl, rfl⟩))
  go_ret
  exact ⟨rfl, rfl⟩
set_option maxRecDepth 100000 in
theorem NB.due {a : Option Addr} (h : NB w a) (n : Int) : Calls Try.prog 10 #[.pointer a, .int .i64 n] w fun e w' => e = .returned (.bool false) ∧ w' = w := by
  have HN := h.runs
  clear h
  go_enter Try.func10, Try.ntmps10
  go_wp2_with (first | (refine HN.mono ?_; rintro e w1 ⟨rfl, rfl⟩))
  go_ret
  exact ⟨rfl, rfl⟩
end
end Go.Proofs.Ytklbkpnbkpoomaa.Oct
