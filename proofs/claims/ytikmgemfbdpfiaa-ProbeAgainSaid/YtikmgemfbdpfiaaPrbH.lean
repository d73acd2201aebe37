/- Contracts of layer 4: Found, and the document's. -/
import Derived.Test.YtikmgemfbdpfiaaPrbG
namespace Go.Proofs.Ytikmgemfbdpfiaa.Oct
open Go.RowKit
set_option linter.unusedVariables false

theorem foundQ_no {f p t q n : Int} (to po : Int) (ok : ¬ okQ f p t q n) : foundQ f p t q n to po = ((0, 0, 0, 0, 0), 2) := if_pos ok
theorem foundQ_state {f p t q n : Int} (to po : Int) (ok : okQ f p t q n) (ht : t ≠ 0) : foundQ f p t q n to po = ((0, 0, 0, 0, 0), 180) := by
  unfold foundQ; rw [if_neg (by simpa using ok), if_pos ht]
theorem foundQ_yes {f p q n : Int} (to po : Int) (ok : okQ f p 0 q n) (he : endP to po = true) : foundQ f p 0 q n to po = ((f, p, to, po, n), 0) := by
  unfold foundQ; rw [if_neg (by simpa using ok), if_neg (by simp), if_pos (of_decide_eq_true he)]
theorem foundQ_arg {f p q n : Int} (to po : Int) (ok : okQ f p 0 q n) (he : endP to po = false) : foundQ f p 0 q n to po = ((0, 0, 0, 0, 0), 2) := by
  unfold foundQ; rw [if_neg (by simpa using ok), if_neg (by simp), if_neg (of_decide_eq_false he)]
theorem checkQ_found {f p q n : Int} (to po : Int) (ok : okQ f p 0 q n) (h0 : to ≠ 0) : checkQ f p to po n = if endP to po then 0 else 2 := by
  by_cases he : endP to po = true
  · rw [if_pos he, checkQ, if_pos]
    have := of_decide_eq_true he
    unfold okQ at ok ⊢; omega
  · have he' : endP to po = false := by simpa using he
    rw [if_neg he, checkQ, if_neg]
    have := of_decide_eq_false he'
    unfold okQ at ok ⊢; omega
theorem endP_zero (po : Int) : endP 0 po = false := decide_eq_false (by omega)

set_option maxRecDepth 100000 in
set_option maxHeartbeats 1600000 in
theorem found_any (f p t q n to po : Int) (w : World) : Calls Try.prog 19 #[.agg #[.int .i64 f, .int .i64 p, .int .i64 t, .int .i64 q, .int .i64 n], .int .i64 to, .int .i64 po] w (PrbOf (foundQ f p t q n to po) w) := by
  by_cases ok : okQ f p t q n
  · have Hck := Kp.mk (show checkQ f p t q n = 0 from if_pos ok)
    by_cases ht : t = 0
    · subst ht
      by_cases h0 : to = 0
      · subst h0
        have Hend := Kp.mk (foundQ_arg 0 po ok (endP_zero po))
        clear ok
        go_enter Try.func19, Try.ntmps19
        go_wp2_with fail
        have hx0 : Nb 23 ((w.alloc (.cells #[.int .i64 f, .int .i64 p, .int .i64 0, .int .i64 q, .int .i64 n] 23)).alloc (.cells #[.int .i64 0, .int .i64 0, .int .i64 0, .int .i64 0, .int .i64 0] 23)) w.heap.size [f, p, 0, q, n] := (Nb.new 23 w [f, p, 0, q, n]).alloc _
        have hk0 : Nb 23 ((w.alloc (.cells #[.int .i64 f, .int .i64 p, .int .i64 0, .int .i64 q, .int .i64 n] 23)).alloc (.cells #[.int .i64 0, .int .i64 0, .int .i64 0, .int .i64 0, .int .i64 0] 23)) (w.heap.size + 1) [0, 0, 0, 0, 0] := by
          have := Nb.new 23 (w.alloc (.cells #[.int .i64 f, .int .i64 p, .int .i64 0, .int .i64 q, .int .i64 n] 23)) [0, 0, 0, 0, 0]
          rw [World.size_alloc] at this
          exact this
        have hT0 := below_two w (.cells #[.int .i64 f, .int .i64 p, .int .i64 0, .int .i64 q, .int .i64 n] 23) (.cells #[.int .i64 0, .int .i64 0, .int .i64 0, .int .i64 0, .int .i64 0] 23)
        have hz0 : ((w.alloc (.cells #[.int .i64 f, .int .i64 p, .int .i64 0, .int .i64 q, .int .i64 n] 23)).alloc (.cells #[.int .i64 0, .int .i64 0, .int .i64 0, .int .i64 0, .int .i64 0] 23)).heap.size = w.heap.size + 2 := by simp
        generalize ((w.alloc (.cells #[.int .i64 f, .int .i64 p, .int .i64 0, .int .i64 q, .int .i64 n] 23)).alloc (.cells #[.int .i64 0, .int .i64 0, .int .i64 0, .int .i64 0, .int .i64 0] 23)) = w0 at *
        refine (check_any f p 0 q n w0).mono ?_
        rw [Hck.out]
        rintro e w1 ⟨rfl, hb1⟩
        have hx1 := hx0.below hb1 (by omega)
        have hk1 := hk0.below hb1 (by omega)
        have hT1 : Below w.heap.size w w1 := hT0.trans (hb1.mono (by omega))
        have hz1 := hb1.size
        clear hx0 hk0 hT0
        have hf := hk1.free
        obtain ⟨d0, d1, d2, d3, d4⟩ := hk1.five
        have hfx := hx1.free
        obtain ⟨a0, a1, a2, a3, a4⟩ := hx1.five
        go_wp2_with fail
        refine (isFound_any f p 0 q n _).mono ?_
        rintro e w' ⟨rfl, rfl⟩
        have hx2 := hx1.alloc (.cells #[.int .i64 f, .int .i64 p, .int .i64 0, .int .i64 q, .int .i64 n] 23)
        have hk2 := hk1.alloc (.cells #[.int .i64 f, .int .i64 p, .int .i64 0, .int .i64 q, .int .i64 n] 23)
        have hT2 := hT1.alloc hT1.size (.cells #[.int .i64 f, .int .i64 p, .int .i64 0, .int .i64 q, .int .i64 n] 23)
        clear d0 d1 d2 d3 d4 hf a0 a1 a2 a3 a4 hfx
        have hf := hk2.free
        obtain ⟨d0, d1, d2, d3, d4⟩ := hk2.five
        have hfx := hx2.free
        obtain ⟨a0, a1, a2, a3, a4⟩ := hx2.five
        go_wp2_with fail
        have hx3 := (hx2.set 2 0).set 3 po
        have hk3 := (hk2.other (r := w.heap.size) (by omega) 2 (.int .i64 0)).other (r := w.heap.size) (by omega) 3 (.int .i64 po)
        have hT3 := (hT2.setCell (p := ⟨w.heap.size, 2, none⟩) (Nat.le_refl _) (.int .i64 0)).setCell (p := ⟨w.heap.size, 3, none⟩) (Nat.le_refl _) (.int .i64 po)
        change Nb _ _ _ [f, p, 0, po, n] at hx3
        generalize ((w1.alloc (.cells #[.int .i64 f, .int .i64 p, .int .i64 0, .int .i64 q, .int .i64 n] 23)).setCell ⟨w.heap.size, 2, none⟩ (.int .i64 0)).setCell ⟨w.heap.size, 3, none⟩ (.int .i64 po) = w3 at *
        clear d0 d1 d2 d3 d4 hf a0 a1 a2 a3 a4 hfx hx1 hx2 hk1 hk2 hT1 hT2
        refine (isFound_any f p 0 po n _).mono ?_
        rintro e w' ⟨rfl, rfl⟩
        have hx4 := hx3.alloc (.cells #[.int .i64 f, .int .i64 p, .int .i64 0, .int .i64 po, .int .i64 n] 23)
        have hk4 := hk3.alloc (.cells #[.int .i64 f, .int .i64 p, .int .i64 0, .int .i64 po, .int .i64 n] 23)
        have hT4 := hT3.alloc hT3.size (.cells #[.int .i64 f, .int .i64 p, .int .i64 0, .int .i64 po, .int .i64 n] 23)
        generalize (w3.alloc (.cells #[.int .i64 f, .int .i64 p, .int .i64 0, .int .i64 po, .int .i64 n] 23)) = w4 at *
        have hf := hk4.free
        obtain ⟨d0, d1, d2, d3, d4⟩ := hk4.five
        have hfx := hx4.free
        obtain ⟨a0, a1, a2, a3, a4⟩ := hx4.five
        go_wp2_with fail
        have hk9 := hk4.put5 (f' := 0) (p' := 0) (t' := 0) (q' := 0) (n' := 0)
        have hT9 := put5_below hT4 (Nat.le_succ _) 0 0 0 0 0
        clear d0 d1 d2 d3 d4 hf
        obtain ⟨d0, d1, d2, d3, d4⟩ := hk9.five
        change bodyPost _ _ _ _ _ (put5 w4 (w.heap.size + 1) 0 0 0 0 0)
        generalize put5 w4 (w.heap.size + 1) 0 0 0 0 0 = wd at *
        refine bodyPost_ret (v := .tuple #[.agg #[.int .i64 0, .int .i64 0, .int .i64 0, .int .i64 0, .int .i64 0], .int .i64 2]) (by simp [results, Try.results19, go_sem, d0, d1, d2, d3, d4]) rfl ?_
        exact PrbOf.mk Hend.out hT9
      · have e0 : (to != 0) = true := bne_iff_ne.2 h0
        have Hc2 := Kp.mk (checkQ_found to po ok h0)
        have Hy := Kp.mk (foundQ_yes to po ok)
        have Hn := Kp.mk (foundQ_arg to po ok)
        clear ok h0
        go_enter Try.func19, Try.ntmps19
        go_wp2_with fail
        have hx0 : Nb 23 ((w.alloc (.cells #[.int .i64 f, .int .i64 p, .int .i64 0, .int .i64 q, .int .i64 n] 23)).alloc (.cells #[.int .i64 0, .int .i64 0, .int .i64 0, .int .i64 0, .int .i64 0] 23)) w.heap.size [f, p, 0, q, n] := (Nb.new 23 w [f, p, 0, q, n]).alloc _
        have hk0 : Nb 23 ((w.alloc (.cells #[.int .i64 f, .int .i64 p, .int .i64 0, .int .i64 q, .int .i64 n] 23)).alloc (.cells #[.int .i64 0, .int .i64 0, .int .i64 0, .int .i64 0, .int .i64 0] 23)) (w.heap.size + 1) [0, 0, 0, 0, 0] := by
          have := Nb.new 23 (w.alloc (.cells #[.int .i64 f, .int .i64 p, .int .i64 0, .int .i64 q, .int .i64 n] 23)) [0, 0, 0, 0, 0]
          rw [World.size_alloc] at this
          exact this
        have hT0 := below_two w (.cells #[.int .i64 f, .int .i64 p, .int .i64 0, .int .i64 q, .int .i64 n] 23) (.cells #[.int .i64 0, .int .i64 0, .int .i64 0, .int .i64 0, .int .i64 0] 23)
        have hz0 : ((w.alloc (.cells #[.int .i64 f, .int .i64 p, .int .i64 0, .int .i64 q, .int .i64 n] 23)).alloc (.cells #[.int .i64 0, .int .i64 0, .int .i64 0, .int .i64 0, .int .i64 0] 23)).heap.size = w.heap.size + 2 := by simp
        generalize ((w.alloc (.cells #[.int .i64 f, .int .i64 p, .int .i64 0, .int .i64 q, .int .i64 n] 23)).alloc (.cells #[.int .i64 0, .int .i64 0, .int .i64 0, .int .i64 0, .int .i64 0] 23)) = w0 at *
        refine (check_any f p 0 q n w0).mono ?_
        rw [Hck.out]
        rintro e w1 ⟨rfl, hb1⟩
        have hx1 := hx0.below hb1 (by omega)
        have hk1 := hk0.below hb1 (by omega)
        have hT1 : Below w.heap.size w w1 := hT0.trans (hb1.mono (by omega))
        have hz1 := hb1.size
        clear hx0 hk0 hT0
        have hf := hk1.free
        obtain ⟨d0, d1, d2, d3, d4⟩ := hk1.five
        have hfx := hx1.free
        obtain ⟨a0, a1, a2, a3, a4⟩ := hx1.five
        go_wp2_with fail
        refine (isFound_any f p 0 q n _).mono ?_
        rintro e w' ⟨rfl, rfl⟩
        have hx2 := hx1.alloc (.cells #[.int .i64 f, .int .i64 p, .int .i64 0, .int .i64 q, .int .i64 n] 23)
        have hk2 := hk1.alloc (.cells #[.int .i64 f, .int .i64 p, .int .i64 0, .int .i64 q, .int .i64 n] 23)
        have hT2 := hT1.alloc hT1.size (.cells #[.int .i64 f, .int .i64 p, .int .i64 0, .int .i64 q, .int .i64 n] 23)
        clear d0 d1 d2 d3 d4 hf a0 a1 a2 a3 a4 hfx
        have hf := hk2.free
        obtain ⟨d0, d1, d2, d3, d4⟩ := hk2.five
        have hfx := hx2.free
        obtain ⟨a0, a1, a2, a3, a4⟩ := hx2.five
        go_wp2_with fail
        have hx3 := (hx2.set 2 to).set 3 po
        have hk3 := (hk2.other (r := w.heap.size) (by omega) 2 (.int .i64 to)).other (r := w.heap.size) (by omega) 3 (.int .i64 po)
        have hT3 := (hT2.setCell (p := ⟨w.heap.size, 2, none⟩) (Nat.le_refl _) (.int .i64 to)).setCell (p := ⟨w.heap.size, 3, none⟩) (Nat.le_refl _) (.int .i64 po)
        change Nb _ _ _ [f, p, to, po, n] at hx3
        generalize ((w1.alloc (.cells #[.int .i64 f, .int .i64 p, .int .i64 0, .int .i64 q, .int .i64 n] 23)).setCell ⟨w.heap.size, 2, none⟩ (.int .i64 to)).setCell ⟨w.heap.size, 3, none⟩ (.int .i64 po) = w3 at *
        clear d0 d1 d2 d3 d4 hf a0 a1 a2 a3 a4 hfx hx1 hx2 hk1 hk2 hT1 hT2
        refine (isFound_any f p to po n _).mono ?_
        rintro e w' ⟨rfl, rfl⟩
        have hx4 := hx3.alloc (.cells #[.int .i64 f, .int .i64 p, .int .i64 to, .int .i64 po, .int .i64 n] 23)
        have hk4 := hk3.alloc (.cells #[.int .i64 f, .int .i64 p, .int .i64 to, .int .i64 po, .int .i64 n] 23)
        have hT4 := hT3.alloc hT3.size (.cells #[.int .i64 f, .int .i64 p, .int .i64 to, .int .i64 po, .int .i64 n] 23)
        generalize (w3.alloc (.cells #[.int .i64 f, .int .i64 p, .int .i64 to, .int .i64 po, .int .i64 n] 23)) = w4 at *
        have hf := hk4.free
        obtain ⟨d0, d1, d2, d3, d4⟩ := hk4.five
        have hfx := hx4.free
        obtain ⟨a0, a1, a2, a3, a4⟩ := hx4.five
        go_wp2_with fail
        refine (check_any f p to po n w4).mono ?_
        rw [Hc2.out]
        rintro e w5 ⟨rfl, hb5⟩
        have hx5 := hx4.below hb5 hx4.lt
        have hk5 := hk4.below hb5 hk4.lt
        have hT5 := hT4.trans (hb5.mono hT4.size)
        clear d0 d1 d2 d3 d4 hf a0 a1 a2 a3 a4 hfx
        have hf := hk5.free
        obtain ⟨d0, d1, d2, d3, d4⟩ := hk5.five
        have hfx := hx5.free
        obtain ⟨a0, a1, a2, a3, a4⟩ := hx5.five
        rcases Bool.eq_false_or_eq_true (endP to po) with he | he
        · have Hend := Kp.mk (Hy.out he)
          rw [if_pos he]
          clear he Hy Hn Hc2
          go_wp2_with fail
          have hk9 := hk5.put5 (f' := f) (p' := p) (t' := to) (q' := po) (n' := n)
          have hT9 := put5_below hT5 (Nat.le_succ _) f p to po n
          clear d0 d1 d2 d3 d4 hf
          obtain ⟨d0, d1, d2, d3, d4⟩ := hk9.five
          change bodyPost _ _ _ _ _ (put5 w5 (w.heap.size + 1) f p to po n)
          generalize put5 w5 (w.heap.size + 1) f p to po n = wd at *
          refine bodyPost_ret (v := .tuple #[.agg #[.int .i64 f, .int .i64 p, .int .i64 to, .int .i64 po, .int .i64 n], .int .i64 0]) (by simp [results, Try.results19, go_sem, d0, d1, d2, d3, d4]) rfl ?_
          exact PrbOf.mk Hend.out hT9
        · have Hend := Kp.mk (Hn.out he)
          rw [if_neg (by rw [he]; simp)]
          clear he Hy Hn Hc2
          go_wp2_with fail
          have hk9 := hk5.put5 (f' := 0) (p' := 0) (t' := 0) (q' := 0) (n' := 0)
          have hT9 := put5_below hT5 (Nat.le_succ _) 0 0 0 0 0
          clear d0 d1 d2 d3 d4 hf
          obtain ⟨d0, d1, d2, d3, d4⟩ := hk9.five
          change bodyPost _ _ _ _ _ (put5 w5 (w.heap.size + 1) 0 0 0 0 0)
          generalize put5 w5 (w.heap.size + 1) 0 0 0 0 0 = wd at *
          refine bodyPost_ret (v := .tuple #[.agg #[.int .i64 0, .int .i64 0, .int .i64 0, .int .i64 0, .int .i64 0], .int .i64 2]) (by simp [results, Try.results19, go_sem, d0, d1, d2, d3, d4]) rfl ?_
          exact PrbOf.mk Hend.out hT9
    · have e1 : (t != 0) = true := bne_iff_ne.2 ht
      have Hend := Kp.mk (foundQ_state to po ok ht)
      clear ok ht
      go_enter Try.func19, Try.ntmps19
      go_wp2_with fail
      have hx0 : Nb 23 ((w.alloc (.cells #[.int .i64 f, .int .i64 p, .int .i64 t, .int .i64 q, .int .i64 n] 23)).alloc (.cells #[.int .i64 0, .int .i64 0, .int .i64 0, .int .i64 0, .int .i64 0] 23)) w.heap.size [f, p, t, q, n] := (Nb.new 23 w [f, p, t, q, n]).alloc _
      have hk0 : Nb 23 ((w.alloc (.cells #[.int .i64 f, .int .i64 p, .int .i64 t, .int .i64 q, .int .i64 n] 23)).alloc (.cells #[.int .i64 0, .int .i64 0, .int .i64 0, .int .i64 0, .int .i64 0] 23)) (w.heap.size + 1) [0, 0, 0, 0, 0] := by
        have := Nb.new 23 (w.alloc (.cells #[.int .i64 f, .int .i64 p, .int .i64 t, .int .i64 q, .int .i64 n] 23)) [0, 0, 0, 0, 0]
        rw [World.size_alloc] at this
        exact this
      have hT0 := below_two w (.cells #[.int .i64 f, .int .i64 p, .int .i64 t, .int .i64 q, .int .i64 n] 23) (.cells #[.int .i64 0, .int .i64 0, .int .i64 0, .int .i64 0, .int .i64 0] 23)
      have hz0 : ((w.alloc (.cells #[.int .i64 f, .int .i64 p, .int .i64 t, .int .i64 q, .int .i64 n] 23)).alloc (.cells #[.int .i64 0, .int .i64 0, .int .i64 0, .int .i64 0, .int .i64 0] 23)).heap.size = w.heap.size + 2 := by simp
      generalize ((w.alloc (.cells #[.int .i64 f, .int .i64 p, .int .i64 t, .int .i64 q, .int .i64 n] 23)).alloc (.cells #[.int .i64 0, .int .i64 0, .int .i64 0, .int .i64 0, .int .i64 0] 23)) = w0 at *
      refine (check_any f p t q n w0).mono ?_
      rw [Hck.out]
      rintro e w1 ⟨rfl, hb1⟩
      have hx1 := hx0.below hb1 (by omega)
      have hk1 := hk0.below hb1 (by omega)
      have hT1 : Below w.heap.size w w1 := hT0.trans (hb1.mono (by omega))
      have hz1 := hb1.size
      clear hx0 hk0 hT0
      have hf := hk1.free
      obtain ⟨d0, d1, d2, d3, d4⟩ := hk1.five
      have hfx := hx1.free
      obtain ⟨a0, a1, a2, a3, a4⟩ := hx1.five
      go_wp2_with fail
      refine (isFound_any f p t q n _).mono ?_
      rintro e w' ⟨rfl, rfl⟩
      have hk2 := hk1.alloc (.cells #[.int .i64 f, .int .i64 p, .int .i64 t, .int .i64 q, .int .i64 n] 23)
      have hT2 := hT1.alloc hT1.size (.cells #[.int .i64 f, .int .i64 p, .int .i64 t, .int .i64 q, .int .i64 n] 23)
      clear d0 d1 d2 d3 d4 hf a0 a1 a2 a3 a4 hfx
      have hf := hk2.free
      obtain ⟨d0, d1, d2, d3, d4⟩ := hk2.five
      go_wp2_with fail
      generalize (w1.alloc (.cells #[.int .i64 f, .int .i64 p, .int .i64 t, .int .i64 q, .int .i64 n] 23)) = w2 at *
      have hk9 := hk2.put5 (f' := 0) (p' := 0) (t' := 0) (q' := 0) (n' := 0)
      have hT9 := put5_below hT2 (Nat.le_succ _) 0 0 0 0 0
      clear d0 d1 d2 d3 d4 hf
      obtain ⟨d0, d1, d2, d3, d4⟩ := hk9.five
      change bodyPost _ _ _ _ _ (put5 w2 (w.heap.size + 1) 0 0 0 0 0)
      generalize put5 w2 (w.heap.size + 1) 0 0 0 0 0 = wd at *
      refine bodyPost_ret (v := .tuple #[.agg #[.int .i64 0, .int .i64 0, .int .i64 0, .int .i64 0, .int .i64 0], .int .i64 180]) (by simp [results, Try.results19, go_sem, d0, d1, d2, d3, d4]) rfl ?_
      exact PrbOf.mk Hend.out hT9
  · have Hck := Kp.mk (show checkQ f p t q n = 2 from if_neg ok)
    have Hend := Kp.mk (foundQ_no to po ok)
    clear ok
    go_enter Try.func19, Try.ntmps19
    go_wp2_with fail
    have hx0 : Nb 23 ((w.alloc (.cells #[.int .i64 f, .int .i64 p, .int .i64 t, .int .i64 q, .int .i64 n] 23)).alloc (.cells #[.int .i64 0, .int .i64 0, .int .i64 0, .int .i64 0, .int .i64 0] 23)) w.heap.size [f, p, t, q, n] := (Nb.new 23 w [f, p, t, q, n]).alloc _
    have hk0 : Nb 23 ((w.alloc (.cells #[.int .i64 f, .int .i64 p, .int .i64 t, .int .i64 q, .int .i64 n] 23)).alloc (.cells #[.int .i64 0, .int .i64 0, .int .i64 0, .int .i64 0, .int .i64 0] 23)) (w.heap.size + 1) [0, 0, 0, 0, 0] := by
      have := Nb.new 23 (w.alloc (.cells #[.int .i64 f, .int .i64 p, .int .i64 t, .int .i64 q, .int .i64 n] 23)) [0, 0, 0, 0, 0]
      rw [World.size_alloc] at this
      exact this
    have hT0 := below_two w (.cells #[.int .i64 f, .int .i64 p, .int .i64 t, .int .i64 q, .int .i64 n] 23) (.cells #[.int .i64 0, .int .i64 0, .int .i64 0, .int .i64 0, .int .i64 0] 23)
    have hz0 : ((w.alloc (.cells #[.int .i64 f, .int .i64 p, .int .i64 t, .int .i64 q, .int .i64 n] 23)).alloc (.cells #[.int .i64 0, .int .i64 0, .int .i64 0, .int .i64 0, .int .i64 0] 23)).heap.size = w.heap.size + 2 := by simp
    generalize ((w.alloc (.cells #[.int .i64 f, .int .i64 p, .int .i64 t, .int .i64 q, .int .i64 n] 23)).alloc (.cells #[.int .i64 0, .int .i64 0, .int .i64 0, .int .i64 0, .int .i64 0] 23)) = w0 at *
    refine (check_any f p t q n w0).mono ?_
    rw [Hck.out]
    rintro e w1 ⟨rfl, hb1⟩
    have hx1 := hx0.below hb1 (by omega)
    have hk1 := hk0.below hb1 (by omega)
    have hT1 : Below w.heap.size w w1 := hT0.trans (hb1.mono (by omega))
    have hz1 := hb1.size
    clear hx0 hk0 hT0
    have hf := hk1.free
    obtain ⟨d0, d1, d2, d3, d4⟩ := hk1.five
    have hfx := hx1.free
    obtain ⟨a0, a1, a2, a3, a4⟩ := hx1.five
    go_wp2_with fail
    have hk9 := hk1.put5 (f' := 0) (p' := 0) (t' := 0) (q' := 0) (n' := 0)
    have hT9 := put5_below hT1 (Nat.le_succ _) 0 0 0 0 0
    clear d0 d1 d2 d3 d4 hf
    obtain ⟨d0, d1, d2, d3, d4⟩ := hk9.five
    change bodyPost _ _ _ _ _ (put5 w1 (w.heap.size + 1) 0 0 0 0 0)
    generalize put5 w1 (w.heap.size + 1) 0 0 0 0 0 = wd at *
    refine bodyPost_ret (v := .tuple #[.agg #[.int .i64 0, .int .i64 0, .int .i64 0, .int .i64 0, .int .i64 0], .int .i64 2]) (by simp [results, Try.results19, go_sem, d0, d1, d2, d3, d4]) rfl ?_
    exact PrbOf.mk Hend.out hT9

set_option maxRecDepth 100000 in
set_option maxHeartbeats 1600000 in
theorem refFound_any (f p t q n to po : Int) (w : World) : Calls Try.prog 20 #[.agg #[.int .i64 f, .int .i64 p, .int .i64 t, .int .i64 q, .int .i64 n], .int .i64 to, .int .i64 po] w (PrbOf (foundQ f p t q n to po) w) := by
  by_cases ok : okQ f p t q n
  · have Hck := Kp.mk (show checkQ f p t q n = 0 from if_pos ok)
    by_cases ht : t = 0
    · subst ht
      have Hy := Kp.mk (foundQ_yes to po ok)
      have Hn := Kp.mk (foundQ_arg to po ok)
      clear ok
      go_enter Try.func20, Try.ntmps20
      go_wp2_with fail
      have hx0 : Nb 23 ((w.alloc (.cells #[.int .i64 f, .int .i64 p, .int .i64 0, .int .i64 q, .int .i64 n] 23)).alloc (.cells #[.int .i64 0, .int .i64 0, .int .i64 0, .int .i64 0, .int .i64 0] 23)) w.heap.size [f, p, 0, q, n] := (Nb.new 23 w [f, p, 0, q, n]).alloc _
      have hk0 : Nb 23 ((w.alloc (.cells #[.int .i64 f, .int .i64 p, .int .i64 0, .int .i64 q, .int .i64 n] 23)).alloc (.cells #[.int .i64 0, .int .i64 0, .int .i64 0, .int .i64 0, .int .i64 0] 23)) (w.heap.size + 1) [0, 0, 0, 0, 0] := by
        have := Nb.new 23 (w.alloc (.cells #[.int .i64 f, .int .i64 p, .int .i64 0, .int .i64 q, .int .i64 n] 23)) [0, 0, 0, 0, 0]
        rw [World.size_alloc] at this
        exact this
      have hT0 := below_two w (.cells #[.int .i64 f, .int .i64 p, .int .i64 0, .int .i64 q, .int .i64 n] 23) (.cells #[.int .i64 0, .int .i64 0, .int .i64 0, .int .i64 0, .int .i64 0] 23)
      have hz0 : ((w.alloc (.cells #[.int .i64 f, .int .i64 p, .int .i64 0, .int .i64 q, .int .i64 n] 23)).alloc (.cells #[.int .i64 0, .int .i64 0, .int .i64 0, .int .i64 0, .int .i64 0] 23)).heap.size = w.heap.size + 2 := by simp
      generalize ((w.alloc (.cells #[.int .i64 f, .int .i64 p, .int .i64 0, .int .i64 q, .int .i64 n] 23)).alloc (.cells #[.int .i64 0, .int .i64 0, .int .i64 0, .int .i64 0, .int .i64 0] 23)) = w0 at *
      refine (refCheck_any f p 0 q n w0).mono ?_
      rw [Hck.out]
      rintro e w1 ⟨rfl, hb1⟩
      have hx1 := hx0.below hb1 (by omega)
      have hk1 := hk0.below hb1 (by omega)
      have hT1 : Below w.heap.size w w1 := hT0.trans (hb1.mono (by omega))
      have hz1 := hb1.size
      clear hx0 hk0 hT0
      have hf := hk1.free
      obtain ⟨d0, d1, d2, d3, d4⟩ := hk1.five
      have hfx := hx1.free
      obtain ⟨a0, a1, a2, a3, a4⟩ := hx1.five
      go_wp2_with fail
      refine (end_any to po _).mono ?_
      rintro e w' ⟨rfl, rfl⟩
      rcases Bool.eq_false_or_eq_true (endP to po) with he | he
      · have Hend := Kp.mk (Hy.out he)
        rw [he]
        clear he Hy Hn
        have hx3 := (hx1.set 2 to).set 3 po
        change Nb _ _ _ [f, p, to, po, n] at hx3
        have hk3 := (hk1.other (r := w.heap.size) (by omega) 2 (.int .i64 to)).other (r := w.heap.size) (by omega) 3 (.int .i64 po)
        have hT3 := (hT1.setCell (p := ⟨w.heap.size, 2, none⟩) (Nat.le_refl _) (.int .i64 to)).setCell (p := ⟨w.heap.size, 3, none⟩) (Nat.le_refl _) (.int .i64 po)
        have b2 := (hx1.set 2 to).free
        have g0 := hx3.five.1
        have g1 := hx3.five.2.1
        have g2 := hx3.five.2.2.1
        have g3 := hx3.five.2.2.2.1
        have g4 := hx3.five.2.2.2.2
        have gd := hk3.five
        have gf := hk3.free
        obtain ⟨k0, k1, k2, k3, k4⟩ := gd
        go_wp2_with fail
        generalize (w1.setCell ⟨w.heap.size, 2, none⟩ (.int .i64 to)).setCell ⟨w.heap.size, 3, none⟩ (.int .i64 po) = w3 at *
        have hk9 := hk3.put5 (f' := f) (p' := p) (t' := to) (q' := po) (n' := n)
        have hT9 := put5_below hT3 (Nat.le_succ _) f p to po n
        clear d0 d1 d2 d3 d4 hf
        obtain ⟨d0, d1, d2, d3, d4⟩ := hk9.five
        change bodyPost _ _ _ _ _ (put5 w3 (w.heap.size + 1) f p to po n)
        generalize put5 w3 (w.heap.size + 1) f p to po n = wd at *
        refine bodyPost_ret (v := .tuple #[.agg #[.int .i64 f, .int .i64 p, .int .i64 to, .int .i64 po, .int .i64 n], .int .i64 0]) (by simp [results, Try.results20, go_sem, d0, d1, d2, d3, d4]) rfl ?_
        exact PrbOf.mk Hend.out hT9
      · have Hend := Kp.mk (Hn.out he)
        rw [he]
        clear he Hy Hn
        go_wp2_with fail
        have hk9 := hk1.put5 (f' := 0) (p' := 0) (t' := 0) (q' := 0) (n' := 0)
        have hT9 := put5_below hT1 (Nat.le_succ _) 0 0 0 0 0
        clear d0 d1 d2 d3 d4 hf
        obtain ⟨d0, d1, d2, d3, d4⟩ := hk9.five
        change bodyPost _ _ _ _ _ (put5 w1 (w.heap.size + 1) 0 0 0 0 0)
        generalize put5 w1 (w.heap.size + 1) 0 0 0 0 0 = wd at *
        refine bodyPost_ret (v := .tuple #[.agg #[.int .i64 0, .int .i64 0, .int .i64 0, .int .i64 0, .int .i64 0], .int .i64 2]) (by simp [results, Try.results20, go_sem, d0, d1, d2, d3, d4]) rfl ?_
        exact PrbOf.mk Hend.out hT9
    · have e1 : (t != 0) = true := bne_iff_ne.2 ht
      have Hend := Kp.mk (foundQ_state to po ok ht)
      clear ok ht
      go_enter Try.func20, Try.ntmps20
      go_wp2_with fail
      have hx0 : Nb 23 ((w.alloc (.cells #[.int .i64 f, .int .i64 p, .int .i64 t, .int .i64 q, .int .i64 n] 23)).alloc (.cells #[.int .i64 0, .int .i64 0, .int .i64 0, .int .i64 0, .int .i64 0] 23)) w.heap.size [f, p, t, q, n] := (Nb.new 23 w [f, p, t, q, n]).alloc _
      have hk0 : Nb 23 ((w.alloc (.cells #[.int .i64 f, .int .i64 p, .int .i64 t, .int .i64 q, .int .i64 n] 23)).alloc (.cells #[.int .i64 0, .int .i64 0, .int .i64 0, .int .i64 0, .int .i64 0] 23)) (w.heap.size + 1) [0, 0, 0, 0, 0] := by
        have := Nb.new 23 (w.alloc (.cells #[.int .i64 f, .int .i64 p, .int .i64 t, .int .i64 q, .int .i64 n] 23)) [0, 0, 0, 0, 0]
        rw [World.size_alloc] at this
        exact this
      have hT0 := below_two w (.cells #[.int .i64 f, .int .i64 p, .int .i64 t, .int .i64 q, .int .i64 n] 23) (.cells #[.int .i64 0, .int .i64 0, .int .i64 0, .int .i64 0, .int .i64 0] 23)
      have hz0 : ((w.alloc (.cells #[.int .i64 f, .int .i64 p, .int .i64 t, .int .i64 q, .int .i64 n] 23)).alloc (.cells #[.int .i64 0, .int .i64 0, .int .i64 0, .int .i64 0, .int .i64 0] 23)).heap.size = w.heap.size + 2 := by simp
      generalize ((w.alloc (.cells #[.int .i64 f, .int .i64 p, .int .i64 t, .int .i64 q, .int .i64 n] 23)).alloc (.cells #[.int .i64 0, .int .i64 0, .int .i64 0, .int .i64 0, .int .i64 0] 23)) = w0 at *
      refine (refCheck_any f p t q n w0).mono ?_
      rw [Hck.out]
      rintro e w1 ⟨rfl, hb1⟩
      have hx1 := hx0.below hb1 (by omega)
      have hk1 := hk0.below hb1 (by omega)
      have hT1 : Below w.heap.size w w1 := hT0.trans (hb1.mono (by omega))
      have hz1 := hb1.size
      clear hx0 hk0 hT0
      have hf := hk1.free
      obtain ⟨d0, d1, d2, d3, d4⟩ := hk1.five
      have hfx := hx1.free
      obtain ⟨a0, a1, a2, a3, a4⟩ := hx1.five
      go_wp2_with fail
      have hk9 := hk1.put5 (f' := 0) (p' := 0) (t' := 0) (q' := 0) (n' := 0)
      have hT9 := put5_below hT1 (Nat.le_succ _) 0 0 0 0 0
      clear d0 d1 d2 d3 d4 hf
      obtain ⟨d0, d1, d2, d3, d4⟩ := hk9.five
      change bodyPost _ _ _ _ _ (put5 w1 (w.heap.size + 1) 0 0 0 0 0)
      generalize put5 w1 (w.heap.size + 1) 0 0 0 0 0 = wd at *
      refine bodyPost_ret (v := .tuple #[.agg #[.int .i64 0, .int .i64 0, .int .i64 0, .int .i64 0, .int .i64 0], .int .i64 180]) (by simp [results, Try.results20, go_sem, d0, d1, d2, d3, d4]) rfl ?_
      exact PrbOf.mk Hend.out hT9
  · have Hck := Kp.mk (show checkQ f p t q n = 2 from if_neg ok)
    have Hend := Kp.mk (foundQ_no to po ok)
    clear ok
    go_enter Try.func20, Try.ntmps20
    go_wp2_with fail
    have hx0 : Nb 23 ((w.alloc (.cells #[.int .i64 f, .int .i64 p, .int .i64 t, .int .i64 q, .int .i64 n] 23)).alloc (.cells #[.int .i64 0, .int .i64 0, .int .i64 0, .int .i64 0, .int .i64 0] 23)) w.heap.size [f, p, t, q, n] := (Nb.new 23 w [f, p, t, q, n]).alloc _
    have hk0 : Nb 23 ((w.alloc (.cells #[.int .i64 f, .int .i64 p, .int .i64 t, .int .i64 q, .int .i64 n] 23)).alloc (.cells #[.int .i64 0, .int .i64 0, .int .i64 0, .int .i64 0, .int .i64 0] 23)) (w.heap.size + 1) [0, 0, 0, 0, 0] := by
      have := Nb.new 23 (w.alloc (.cells #[.int .i64 f, .int .i64 p, .int .i64 t, .int .i64 q, .int .i64 n] 23)) [0, 0, 0, 0, 0]
      rw [World.size_alloc] at this
      exact this
    have hT0 := below_two w (.cells #[.int .i64 f, .int .i64 p, .int .i64 t, .int .i64 q, .int .i64 n] 23) (.cells #[.int .i64 0, .int .i64 0, .int .i64 0, .int .i64 0, .int .i64 0] 23)
    have hz0 : ((w.alloc (.cells #[.int .i64 f, .int .i64 p, .int .i64 t, .int .i64 q, .int .i64 n] 23)).alloc (.cells #[.int .i64 0, .int .i64 0, .int .i64 0, .int .i64 0, .int .i64 0] 23)).heap.size = w.heap.size + 2 := by simp
    generalize ((w.alloc (.cells #[.int .i64 f, .int .i64 p, .int .i64 t, .int .i64 q, .int .i64 n] 23)).alloc (.cells #[.int .i64 0, .int .i64 0, .int .i64 0, .int .i64 0, .int .i64 0] 23)) = w0 at *
    refine (refCheck_any f p t q n w0).mono ?_
    rw [Hck.out]
    rintro e w1 ⟨rfl, hb1⟩
    have hx1 := hx0.below hb1 (by omega)
    have hk1 := hk0.below hb1 (by omega)
    have hT1 : Below w.heap.size w w1 := hT0.trans (hb1.mono (by omega))
    have hz1 := hb1.size
    clear hx0 hk0 hT0
    have hf := hk1.free
    obtain ⟨d0, d1, d2, d3, d4⟩ := hk1.five
    have hfx := hx1.free
    obtain ⟨a0, a1, a2, a3, a4⟩ := hx1.five
    go_wp2_with fail
    have hk9 := hk1.put5 (f' := 0) (p' := 0) (t' := 0) (q' := 0) (n' := 0)
    have hT9 := put5_below hT1 (Nat.le_succ _) 0 0 0 0 0
    clear d0 d1 d2 d3 d4 hf
    obtain ⟨d0, d1, d2, d3, d4⟩ := hk9.five
    change bodyPost _ _ _ _ _ (put5 w1 (w.heap.size + 1) 0 0 0 0 0)
    generalize put5 w1 (w.heap.size + 1) 0 0 0 0 0 = wd at *
    refine bodyPost_ret (v := .tuple #[.agg #[.int .i64 0, .int .i64 0, .int .i64 0, .int .i64 0, .int .i64 0], .int .i64 2]) (by simp [results, Try.results20, go_sem, d0, d1, d2, d3, d4]) rfl ?_
    exact PrbOf.mk Hend.out hT9
end Go.Proofs.Ytikmgemfbdpfiaa.Oct
