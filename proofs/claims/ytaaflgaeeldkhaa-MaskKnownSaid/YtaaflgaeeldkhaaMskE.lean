/- Contracts of layer 7: the document's Meet and Only. -/
import Derived.Test.YtaaflgaeeldkhaaMskD
namespace Go.Proofs.Ytaaflgaeeldkhaa.Oct
open Go.RowKit
set_option linter.unusedVariables false
set_option linter.unusedSimpArgs false

set_option maxRecDepth 100000 in
set_option maxHeartbeats 8000000 in
theorem refMeet_any (x y : MaskV) (w : World) : Calls Try.prog 37 #[.agg #[.int .i64 x.v, .int .i64 x.m, .int .u8 x.b0, .int .u8 x.b1, .int .u8 x.b2, .int .u8 x.i0, .int .u8 x.i1, .int .u8 x.i2], .agg #[.int .i64 y.v, .int .i64 y.m, .int .u8 y.b0, .int .u8 y.b1, .int .u8 y.b2, .int .u8 y.i0, .int .u8 y.i1, .int .u8 y.i2]] w (MeetOf x y w) := by
  have hx : Vb 25 (((w.alloc (.cells #[.int .i64 x.v, .int .i64 x.m, .int .u8 x.b0, .int .u8 x.b1, .int .u8 x.b2, .int .u8 x.i0, .int .u8 x.i1, .int .u8 x.i2] 25)).alloc (.cells #[.int .i64 y.v, .int .i64 y.m, .int .u8 y.b0, .int .u8 y.b1, .int .u8 y.b2, .int .u8 y.i0, .int .u8 y.i1, .int .u8 y.i2] 25)).alloc (.cells #[.int .i64 0, .int .i64 0, .int .u8 0, .int .u8 0, .int .u8 0, .int .u8 0, .int .u8 0, .int .u8 0] 25)) w.heap.size [.int .i64 x.v, .int .i64 x.m, .int .u8 x.b0, .int .u8 x.b1, .int .u8 x.b2, .int .u8 x.i0, .int .u8 x.i1, .int .u8 x.i2] := ((Vb.new 25 w (mcl x)).alloc _).alloc _
  have hy : Vb 25 (((w.alloc (.cells #[.int .i64 x.v, .int .i64 x.m, .int .u8 x.b0, .int .u8 x.b1, .int .u8 x.b2, .int .u8 x.i0, .int .u8 x.i1, .int .u8 x.i2] 25)).alloc (.cells #[.int .i64 y.v, .int .i64 y.m, .int .u8 y.b0, .int .u8 y.b1, .int .u8 y.b2, .int .u8 y.i0, .int .u8 y.i1, .int .u8 y.i2] 25)).alloc (.cells #[.int .i64 0, .int .i64 0, .int .u8 0, .int .u8 0, .int .u8 0, .int .u8 0, .int .u8 0, .int .u8 0] 25)) (w.heap.size + 1) [.int .i64 y.v, .int .i64 y.m, .int .u8 y.b0, .int .u8 y.b1, .int .u8 y.b2, .int .u8 y.i0, .int .u8 y.i1, .int .u8 y.i2] := by have := (Vb.new 25 (w.alloc (.cells #[.int .i64 x.v, .int .i64 x.m, .int .u8 x.b0, .int .u8 x.b1, .int .u8 x.b2, .int .u8 x.i0, .int .u8 x.i1, .int .u8 x.i2] 25)) (mcl y)).alloc (.cells #[.int .i64 0, .int .i64 0, .int .u8 0, .int .u8 0, .int .u8 0, .int .u8 0, .int .u8 0, .int .u8 0] 25); simpa [mcl] using this
  have hr : Vb 25 (((w.alloc (.cells #[.int .i64 x.v, .int .i64 x.m, .int .u8 x.b0, .int .u8 x.b1, .int .u8 x.b2, .int .u8 x.i0, .int .u8 x.i1, .int .u8 x.i2] 25)).alloc (.cells #[.int .i64 y.v, .int .i64 y.m, .int .u8 y.b0, .int .u8 y.b1, .int .u8 y.b2, .int .u8 y.i0, .int .u8 y.i1, .int .u8 y.i2] 25)).alloc (.cells #[.int .i64 0, .int .i64 0, .int .u8 0, .int .u8 0, .int .u8 0, .int .u8 0, .int .u8 0, .int .u8 0] 25)) (w.heap.size + 2) [.int .i64 0, .int .i64 0, .int .u8 0, .int .u8 0, .int .u8 0, .int .u8 0, .int .u8 0, .int .u8 0] := by have := Vb.new 25 ((w.alloc (.cells #[.int .i64 x.v, .int .i64 x.m, .int .u8 x.b0, .int .u8 x.b1, .int .u8 x.b2, .int .u8 x.i0, .int .u8 x.i1, .int .u8 x.i2] 25)).alloc (.cells #[.int .i64 y.v, .int .i64 y.m, .int .u8 y.b0, .int .u8 y.b1, .int .u8 y.b2, .int .u8 y.i0, .int .u8 y.i1, .int .u8 y.i2] 25)) (mcl noMask); simpa [mcl, noMask] using this
  have hB := (below_two w (.cells #[.int .i64 x.v, .int .i64 x.m, .int .u8 x.b0, .int .u8 x.b1, .int .u8 x.b2, .int .u8 x.i0, .int .u8 x.i1, .int .u8 x.i2] 25) (.cells #[.int .i64 y.v, .int .i64 y.m, .int .u8 y.b0, .int .u8 y.b1, .int .u8 y.b2, .int .u8 y.i0, .int .u8 y.i1, .int .u8 y.i2] 25)).alloc (by simp; omega) (.cells #[.int .i64 0, .int .i64 0, .int .u8 0, .int .u8 0, .int .u8 0, .int .u8 0, .int .u8 0, .int .u8 0] 25)
  have Hno := Kp.mk (fun (h : meetB x y = false) (w' : World) (hb : Below w.heap.size w w') => MeetOf.no h hb)
  have Hyes := Kp.mk (fun (h : meetB x y = true) (w' : World) (hb : Below w.heap.size w w') => MeetOf.yes h hb)
  have Hbad := Kp.mk (@meetB_bad x y)
  have Hgood := Kp.mk (@meetB_good x y)
  have Hlike := Kp.mk (show likeB x y = ((dif x.i0 y.i0 x.b0 y.b0 == 0) && ((dif x.i1 y.i1 x.b1 y.b1 == 0) && (dif x.i2 y.i2 x.b2 y.b2 == 0))) from rfl)
  generalize hP : MeetOf x y w = P at *
  clear hP
  go_enter Try.func37, Try.ntmps37
  go_upto_region 1 with fail
  generalize ((w.alloc (.cells #[.int .i64 x.v, .int .i64 x.m, .int .u8 x.b0, .int .u8 x.b1, .int .u8 x.b2, .int .u8 x.i0, .int .u8 x.i1, .int .u8 x.i2] 25)).alloc (.cells #[.int .i64 y.v, .int .i64 y.m, .int .u8 y.b0, .int .u8 y.b1, .int .u8 y.b2, .int .u8 y.i0, .int .u8 y.i1, .int .u8 y.i2] 25)).alloc (.cells #[.int .i64 0, .int .i64 0, .int .u8 0, .int .u8 0, .int .u8 0, .int .u8 0, .int .u8 0, .int .u8 0] 25) = w0 at *
  obtain ⟨d0, d1, d2, d3, d4, d5, d6, d7⟩ := hx.c8
  obtain ⟨e0, e1, e2, e3, e4, e5, e6, e7⟩ := hy.c8
  go_cut [39] from 8 (fun v' wx => v' = .bool (badM x y) ∧ wx = w0)
  case first => as_aux_lemma =>
    clear hx hy hr hB
    by_cases q0 : (x.v != 0) = true
    rotate_left
    · replace q0 : (x.v != 0) = false := by simpa using q0
      by_cases q1 : (x.m != -1) = true
      rotate_left
      · replace q1 : (x.m != -1) = false := by simpa using q1
        have hp := Kp.mk (show badM x y = false by simp [badM, q0, q1])
        go_wp2_with fail
        go_meet
        case rel => exact ⟨by rw [hp.out]; first | done | rfl, rfl⟩
      by_cases q2 : (y.m != -1) = true
      rotate_left
      · replace q2 : (y.m != -1) = false := by simpa using q2
        have hp := Kp.mk (show badM x y = false by simp [badM, q0, q1, q2])
        go_wp2_with fail
        go_meet
        case rel => exact ⟨by rw [hp.out]; first | done | rfl, rfl⟩
      by_cases q3 : (x.m != y.m) = true
      rotate_left
      · replace q3 : (x.m != y.m) = false := by simpa using q3
        have hp := Kp.mk (show badM x y = false by simp [badM, q0, q1, q2, q3])
        go_wp2_with fail
        go_meet
        case rel => exact ⟨by rw [hp.out]; first | done | rfl, rfl⟩
      have hp := Kp.mk (show badM x y = true by simp [badM, q0, q1, q2, q3])
      go_wp2_with fail
      go_meet
      case rel => exact ⟨by rw [hp.out]; first | done | rfl, rfl⟩
    by_cases q1 : (y.v != 0) = true
    rotate_left
    · replace q1 : (y.v != 0) = false := by simpa using q1
      by_cases q2 : (x.m != -1) = true
      rotate_left
      · replace q2 : (x.m != -1) = false := by simpa using q2
        have hp := Kp.mk (show badM x y = false by simp [badM, q0, q1, q2])
        go_wp2_with fail
        go_meet
        case rel => exact ⟨by rw [hp.out]; first | done | rfl, rfl⟩
      by_cases q3 : (y.m != -1) = true
      rotate_left
      · replace q3 : (y.m != -1) = false := by simpa using q3
        have hp := Kp.mk (show badM x y = false by simp [badM, q0, q1, q2, q3])
        go_wp2_with fail
        go_meet
        case rel => exact ⟨by rw [hp.out]; first | done | rfl, rfl⟩
      by_cases q4 : (x.m != y.m) = true
      rotate_left
      · replace q4 : (x.m != y.m) = false := by simpa using q4
        have hp := Kp.mk (show badM x y = false by simp [badM, q0, q1, q2, q3, q4])
        go_wp2_with fail
        go_meet
        case rel => exact ⟨by rw [hp.out]; first | done | rfl, rfl⟩
      have hp := Kp.mk (show badM x y = true by simp [badM, q0, q1, q2, q3, q4])
      go_wp2_with fail
      go_meet
      case rel => exact ⟨by rw [hp.out]; first | done | rfl, rfl⟩
    by_cases q2 : (x.v != y.v) = true
    rotate_left
    · replace q2 : (x.v != y.v) = false := by simpa using q2
      by_cases q3 : (x.m != -1) = true
      rotate_left
      · replace q3 : (x.m != -1) = false := by simpa using q3
        have hp := Kp.mk (show badM x y = false by simp [badM, q0, q1, q2, q3])
        go_wp2_with fail
        go_meet
        case rel => exact ⟨by rw [hp.out]; first | done | rfl, rfl⟩
      by_cases q4 : (y.m != -1) = true
      rotate_left
      · replace q4 : (y.m != -1) = false := by simpa using q4
        have hp := Kp.mk (show badM x y = false by simp [badM, q0, q1, q2, q3, q4])
        go_wp2_with fail
        go_meet
        case rel => exact ⟨by rw [hp.out]; first | done | rfl, rfl⟩
      by_cases q5 : (x.m != y.m) = true
      rotate_left
      · replace q5 : (x.m != y.m) = false := by simpa using q5
        have hp := Kp.mk (show badM x y = false by simp [badM, q0, q1, q2, q3, q4, q5])
        go_wp2_with fail
        go_meet
        case rel => exact ⟨by rw [hp.out]; first | done | rfl, rfl⟩
      have hp := Kp.mk (show badM x y = true by simp [badM, q0, q1, q2, q3, q4, q5])
      go_wp2_with fail
      go_meet
      case rel => exact ⟨by rw [hp.out]; first | done | rfl, rfl⟩
    have hp := Kp.mk (show badM x y = true by simp [badM, q0, q1, q2])
    go_wp2_with fail
    go_meet
    case rel => exact ⟨by rw [hp.out]; first | done | rfl, rfl⟩
  case rest =>
    obtain ⟨rfl, rfl⟩ := hcut
    by_cases hb : badM x y = true
    · have hm := Kp.mk (Hbad.out hb)
      rw [hb]
      clear hb d0 d1 d2 d3 d4 d5 d6 d7 e0 e1 e2 e3 e4 e5 e6 e7
      go_wp2_with (refine wpList_store_vb (vs := [.int .i64 0, .int .i64 0, .int .u8 0, .int .u8 0, .int .u8 0, .int .u8 0, .int .u8 0, .int .u8 0]) rfl (.tmp 4) (.tmp 40) rfl rfl rfl hr rfl agg_mask rfl ?_; intro w9 hv9 hg9 hz9)
      refine bodyPost_ret (results_pair Try.results37 _ rfl hv9 agg_mask) rfl ?_
      exact Hno.out (hm.out) w9 (hB.grown hg9 (by have := hr.lt; omega) (fun k e => by simp at e; omega))
    replace hb : badM x y = false := by simpa using hb
    have Hm := Kp.mk ((Hgood.out hb).trans Hlike.out)
    rw [hb]
    clear hb Hgood Hbad Hlike d0 d1 d2 d3 d4 d5 d6 d7 e0 e1 e2 e3 e4 e5 e6 e7
    have hlt : w.heap.size + 2 < wc.heap.size := hr.lt
    go_upto_region 4 with (first | refine wpList_load_vb (vs := [.int .i64 x.v, .int .i64 x.m, .int .u8 x.b0, .int .u8 x.b1, .int .u8 x.b2, .int .u8 x.i0, .int .u8 x.i1, .int .u8 x.i2]) rfl (.tmp 2) rfl rfl hx rfl agg_mask ?_ | (refine wpList_store_new (vs := [.int .i64 x.v, .int .i64 x.m, .int .u8 x.b0, .int .u8 x.b1, .int .u8 x.b2, .int .u8 x.i0, .int .u8 x.i1, .int .u8 x.i2]) rfl (.tmp 6) (.tmp 41) rfl rfl rfl rfl rfl rfl agg_mask rfl ?_; intro w1 hm hb1 hz1))
    replace hx := hx.below hb1 (by omega)
    replace hy := hy.below hb1 (by omega)
    replace hr := hr.below hb1 (by omega)
    replace hB := hB.trans (hb1.mono (by omega))
    clear hb1 hz1
    generalize wc.heap.size = g at *
    obtain ⟨d0, d1, d2, d3, d4, d5, d6, d7⟩ := hx.c8
    obtain ⟨e0, e1, e2, e3, e4, e5, e6, e7⟩ := hy.c8
    obtain ⟨m0, m1, m2, m3, m4, m5, m6, m7⟩ := hm.c8
    have hf := hm.free
    go_upto_if 44 with fail
    go_cut [] from 42 (fun wx => Vb 25 wx w.heap.size [.int .i64 x.v, .int .i64 x.m, .int .u8 x.b0, .int .u8 x.b1, .int .u8 x.b2, .int .u8 x.i0, .int .u8 x.i1, .int .u8 x.i2] ∧ Vb 25 wx (w.heap.size + 1) [.int .i64 y.v, .int .i64 y.m, .int .u8 y.b0, .int .u8 y.b1, .int .u8 y.b2, .int .u8 y.i0, .int .u8 y.i1, .int .u8 y.i2] ∧ Vb 25 wx (w.heap.size + 2) [.int .i64 0, .int .i64 0, .int .u8 0, .int .u8 0, .int .u8 0, .int .u8 0, .int .u8 0, .int .u8 0] ∧ Vb 25 wx g [.int .i64 (eithN x.v y.v 0), .int .i64 x.m, .int .u8 x.b0, .int .u8 x.b1, .int .u8 x.b2, .int .u8 x.i0, .int .u8 x.i1, .int .u8 x.i2] ∧ Below w.heap.size w wx)
    case first => as_aux_lemma =>
      by_cases hv : x.v = 0
      · have hm2 : Vb 25 (w1.setCell ⟨g, 0, none⟩ (.int .i64 y.v)) g [.int .i64 (eithN x.v y.v 0), .int .i64 x.m, .int .u8 x.b0, .int .u8 x.b1, .int .u8 x.b2, .int .u8 x.i0, .int .u8 x.i1, .int .u8 x.i2] := by
          have h := hm.set 0 (.int .i64 y.v)
          have e : eithN x.v y.v 0 = y.v := if_pos hv
          rw [e]
          exact h
        have hx2 := hx.other (r := g) (by omega) 0 (.int .i64 y.v)
        have hy2 := hy.other (r := g) (by omega) 0 (.int .i64 y.v)
        have hr2 := hr.other (r := g) (by omega) 0 (.int .i64 y.v)
        have hB2 := hB.setCell (p := ⟨g, 0, none⟩) (by simp; omega) (.int .i64 y.v)
        have Hr := Kp.mk (And.intro hx2 (And.intro hy2 (And.intro hr2 (And.intro hm2 hB2))))
        have hv' : (x.v == 0) = true := by simpa using hv
        clear hx2 hy2 hr2 hm2 hB2 hx hy hr hm hB hv
        go_wp2_with fail
        go_meet
        case rel => exact Hr.out
      · have e : eithN x.v y.v 0 = x.v := if_neg hv
        have Hr := Kp.mk (And.intro hx (And.intro hy (And.intro hr (And.intro (show Vb 25 w1 g [.int .i64 (eithN x.v y.v 0), .int .i64 x.m, .int .u8 x.b0, .int .u8 x.b1, .int .u8 x.b2, .int .u8 x.i0, .int .u8 x.i1, .int .u8 x.i2] by rw [e]; exact hm) hB))))
        have hv' : (x.v == 0) = false := by simpa using hv
        clear hx hy hr hm hB hv e
        go_wp2_with fail
        go_meet
        case rel => exact Hr.out
    clear hx hy hr hm hB hf d0 d1 d2 d3 d4 d5 d6 d7 e0 e1 e2 e3 e4 e5 e6 e7 m0 m1 m2 m3 m4 m5 m6 m7
    obtain ⟨hx, hy, hr, hm, hB⟩ := hcut
    obtain ⟨d0, d1, d2, d3, d4, d5, d6, d7⟩ := hx.c8
    obtain ⟨e0, e1, e2, e3, e4, e5, e6, e7⟩ := hy.c8
    obtain ⟨m0, m1, m2, m3, m4, m5, m6, m7⟩ := hm.c8
    have hf := hm.free
    go_upto_if 50 with fail
    go_cut [] from 48 (fun wx => Vb 25 wx w.heap.size [.int .i64 x.v, .int .i64 x.m, .int .u8 x.b0, .int .u8 x.b1, .int .u8 x.b2, .int .u8 x.i0, .int .u8 x.i1, .int .u8 x.i2] ∧ Vb 25 wx (w.heap.size + 1) [.int .i64 y.v, .int .i64 y.m, .int .u8 y.b0, .int .u8 y.b1, .int .u8 y.b2, .int .u8 y.i0, .int .u8 y.i1, .int .u8 y.i2] ∧ Vb 25 wx (w.heap.size + 2) [.int .i64 0, .int .i64 0, .int .u8 0, .int .u8 0, .int .u8 0, .int .u8 0, .int .u8 0, .int .u8 0] ∧ Vb 25 wx g [.int .i64 (eithN x.v y.v 0), .int .i64 (eithN x.m y.m (-1)), .int .u8 x.b0, .int .u8 x.b1, .int .u8 x.b2, .int .u8 x.i0, .int .u8 x.i1, .int .u8 x.i2] ∧ Below w.heap.size w wx)
    case first => as_aux_lemma =>
      by_cases hv : x.m = (-1)
      · have hm2 : Vb 25 (wc.setCell ⟨g, 1, none⟩ (.int .i64 y.m)) g [.int .i64 (eithN x.v y.v 0), .int .i64 (eithN x.m y.m (-1)), .int .u8 x.b0, .int .u8 x.b1, .int .u8 x.b2, .int .u8 x.i0, .int .u8 x.i1, .int .u8 x.i2] := by
          have h := hm.set 1 (.int .i64 y.m)
          have e : eithN x.m y.m (-1) = y.m := if_pos hv
          rw [e]
          exact h
        have hx2 := hx.other (r := g) (by omega) 1 (.int .i64 y.m)
        have hy2 := hy.other (r := g) (by omega) 1 (.int .i64 y.m)
        have hr2 := hr.other (r := g) (by omega) 1 (.int .i64 y.m)
        have hB2 := hB.setCell (p := ⟨g, 1, none⟩) (by simp; omega) (.int .i64 y.m)
        have Hr := Kp.mk (And.intro hx2 (And.intro hy2 (And.intro hr2 (And.intro hm2 hB2))))
        have hv' : (x.m == (-1)) = true := by simpa using hv
        clear hx2 hy2 hr2 hm2 hB2 hx hy hr hm hB hv
        go_wp2_with fail
        go_meet
        case rel => exact Hr.out
      · have e : eithN x.m y.m (-1) = x.m := if_neg hv
        have Hr := Kp.mk (And.intro hx (And.intro hy (And.intro hr (And.intro (show Vb 25 wc g [.int .i64 (eithN x.v y.v 0), .int .i64 (eithN x.m y.m (-1)), .int .u8 x.b0, .int .u8 x.b1, .int .u8 x.b2, .int .u8 x.i0, .int .u8 x.i1, .int .u8 x.i2] by rw [e]; exact hm) hB))))
        have hv' : (x.m == (-1)) = false := by simpa using hv
        clear hx hy hr hm hB hv e
        go_wp2_with fail
        go_meet
        case rel => exact Hr.out
    clear hx hy hr hm hB hf d0 d1 d2 d3 d4 d5 d6 d7 e0 e1 e2 e3 e4 e5 e6 e7 m0 m1 m2 m3 m4 m5 m6 m7
    obtain ⟨hx, hy, hr, hm, hB⟩ := hcut
    obtain ⟨d0, d1, d2, d3, d4, d5, d6, d7⟩ := hx.c8
    obtain ⟨e0, e1, e2, e3, e4, e5, e6, e7⟩ := hy.c8
    have hf := hm.free
    go_wp2_with fail
    refine wp_loop_rounds (3 + 1) ?_
    rw [rounds_succ]
    go_upto_region 11 with fail
    by_cases c0 : (dif x.i0 y.i0 x.b0 y.b0 == 0) = true
    rotate_left
    · have c0' : (dif x.i0 y.i0 x.b0 y.b0 == 0) = false := by simpa using c0
      have n0 : (bits .and .u8 (bits .and .u8 (bits .xor .u8 x.i0 y.i0) x.b0) y.b0 != 0) = true := by unfold dif at c0'; simp only [bne, c0', Bool.not_false]
      have HM := Kp.mk (show meetB x y = false by rw [Hm.out, c0']; rfl)
      clear c0 c0'
      go_quiet (fail)
      have gx : Vb 25 (wc.drewN nq) w.heap.size [.int .i64 x.v, .int .i64 x.m, .int .u8 x.b0, .int .u8 x.b1, .int .u8 x.b2, .int .u8 x.i0, .int .u8 x.i1, .int .u8 x.i2] := hx
      have gy : Vb 25 (wc.drewN nq) (w.heap.size + 1) [.int .i64 y.v, .int .i64 y.m, .int .u8 y.b0, .int .u8 y.b1, .int .u8 y.b2, .int .u8 y.i0, .int .u8 y.i1, .int .u8 y.i2] := hy
      have gr : Vb 25 (wc.drewN nq) (w.heap.size + 2) [.int .i64 0, .int .i64 0, .int .u8 0, .int .u8 0, .int .u8 0, .int .u8 0, .int .u8 0, .int .u8 0] := hr
      have gm : Vb 25 (wc.drewN nq) g [.int .i64 (eithN x.v y.v 0), .int .i64 (eithN x.m y.m (-1)), .int .u8 x.b0, .int .u8 x.b1, .int .u8 x.b2, .int .u8 x.i0, .int .u8 x.i1, .int .u8 x.i2] := hm
      have gB : Below w.heap.size w (wc.drewN nq) := below_drewN hB nq
      clear hx hy hr hm hB hf d0 d1 d2 d3 d4 d5 d6 d7 e0 e1 e2 e3 e4 e5 e6 e7
      generalize wc.drewN nq = q0 at *
      go_wp2_with (refine wpList_store_vb (vs := [.int .i64 0, .int .i64 0, .int .u8 0, .int .u8 0, .int .u8 0, .int .u8 0, .int .u8 0, .int .u8 0]) rfl (.tmp 4) (.tmp 78) rfl rfl rfl gr rfl agg_mask rfl ?_; intro w9 hv9 hg9 hz9)
      refine bodyPost_ret (results_pair Try.results37 _ rfl hv9 agg_mask) rfl ?_
      exact Hno.out (HM.out) w9 (gB.grown hg9 (by have := gr.lt; omega) (fun k e => by simp at e; omega))
    have n0 : (bits .and .u8 (bits .and .u8 (bits .xor .u8 x.i0 y.i0) x.b0) y.b0 != 0) = false := by unfold dif at c0; simp only [bne, c0, Bool.not_true]
    have C0 := Kp.mk c0
    clear c0
    go_quiet (fail)
    have gx : Vb 25 (wc.drewN nq) w.heap.size [.int .i64 x.v, .int .i64 x.m, .int .u8 x.b0, .int .u8 x.b1, .int .u8 x.b2, .int .u8 x.i0, .int .u8 x.i1, .int .u8 x.i2] := hx
    have gy : Vb 25 (wc.drewN nq) (w.heap.size + 1) [.int .i64 y.v, .int .i64 y.m, .int .u8 y.b0, .int .u8 y.b1, .int .u8 y.b2, .int .u8 y.i0, .int .u8 y.i1, .int .u8 y.i2] := hy
    have gr : Vb 25 (wc.drewN nq) (w.heap.size + 2) [.int .i64 0, .int .i64 0, .int .u8 0, .int .u8 0, .int .u8 0, .int .u8 0, .int .u8 0, .int .u8 0] := hr
    have gm : Vb 25 (wc.drewN nq) g [.int .i64 (eithN x.v y.v 0), .int .i64 (eithN x.m y.m (-1)), .int .u8 x.b0, .int .u8 x.b1, .int .u8 x.b2, .int .u8 x.i0, .int .u8 x.i1, .int .u8 x.i2] := hm
    have gB : Below w.heap.size w (wc.drewN nq) := below_drewN hB nq
    clear hx hy hr hm hB hf d0 d1 d2 d3 d4 d5 d6 d7 e0 e1 e2 e3 e4 e5 e6 e7
    generalize wc.drewN nq = q0 at *
    clear n0
    have hx := gx
    have hy := gy
    have hr := gr
    have hB := gB
    clear gx gy gr gB
    have hf := gm.free
    obtain ⟨d0, d1, d2, d3, d4, d5, d6, d7⟩ := hx.c8
    obtain ⟨e0, e1, e2, e3, e4, e5, e6, e7⟩ := hy.c8
    go_upto_region 13 with fail
    have hq0 := gm
    clear gm
    go_still_tail 12, (by kernel_rfl)
    have gx : Vb 25 q0.drew w.heap.size [.int .i64 x.v, .int .i64 x.m, .int .u8 x.b0, .int .u8 x.b1, .int .u8 x.b2, .int .u8 x.i0, .int .u8 x.i1, .int .u8 x.i2] := hx
    have gy : Vb 25 q0.drew (w.heap.size + 1) [.int .i64 y.v, .int .i64 y.m, .int .u8 y.b0, .int .u8 y.b1, .int .u8 y.b2, .int .u8 y.i0, .int .u8 y.i1, .int .u8 y.i2] := hy
    have gr : Vb 25 q0.drew (w.heap.size + 2) [.int .i64 0, .int .i64 0, .int .u8 0, .int .u8 0, .int .u8 0, .int .u8 0, .int .u8 0, .int .u8 0] := hr
    have gm : Vb 25 q0.drew g [.int .i64 (eithN x.v y.v 0), .int .i64 (eithN x.m y.m (-1)), .int .u8 x.b0, .int .u8 x.b1, .int .u8 x.b2, .int .u8 x.i0, .int .u8 x.i1, .int .u8 x.i2] := hq0
    have gB : Below w.heap.size w q0.drew := hB.drew
    clear hx hy hr hq0 hB hf d0 d1 d2 d3 d4 d5 d6 d7 e0 e1 e2 e3 e4 e5 e6 e7
    change wpList _ _ _ _ _ q0.drew
    generalize q0.drew = a0 at *
    have hf := gm.free
    obtain ⟨m0, m1, m2, m3, m4, m5, m6, m7⟩ := gm.c8
    have hx := gx.other (r := g) (by omega) 2 (.int .u8 (bits .or .u8 x.b0 y.b0))
    have hy := gy.other (r := g) (by omega) 2 (.int .u8 (bits .or .u8 x.b0 y.b0))
    have hr := gr.other (r := g) (by omega) 2 (.int .u8 (bits .or .u8 x.b0 y.b0))
    have hn0 : Vb 25 (a0.setCell ⟨g, 2, none⟩ (.int .u8 (bits .or .u8 x.b0 y.b0))) g [.int .i64 (eithN x.v y.v 0), .int .i64 (eithN x.m y.m (-1)), .int .u8 (bits .or .u8 x.b0 y.b0), .int .u8 x.b1, .int .u8 x.b2, .int .u8 x.i0, .int .u8 x.i1, .int .u8 x.i2] := gm.set 2 _
    have hB := gB.setCell (p := ⟨g, 2, none⟩) (by simp; omega) (.int .u8 (bits .or .u8 x.b0 y.b0))
    clear gx gy gr gm gB
    go_upto_region 14 with fail
    clear hf m0 m1 m2 m3 m4 m5 m6 m7
    generalize a0.setCell ⟨g, 2, none⟩ (.int .u8 (bits .or .u8 x.b0 y.b0)) = b0 at *
    have hf := hn0.free
    obtain ⟨d0, d1, d2, d3, d4, d5, d6, d7⟩ := hx.c8
    obtain ⟨e0, e1, e2, e3, e4, e5, e6, e7⟩ := hy.c8
    go_still_tail 22, (by kernel_rfl)
    have gx : Vb 25 b0.drew w.heap.size [.int .i64 x.v, .int .i64 x.m, .int .u8 x.b0, .int .u8 x.b1, .int .u8 x.b2, .int .u8 x.i0, .int .u8 x.i1, .int .u8 x.i2] := hx
    have gy : Vb 25 b0.drew (w.heap.size + 1) [.int .i64 y.v, .int .i64 y.m, .int .u8 y.b0, .int .u8 y.b1, .int .u8 y.b2, .int .u8 y.i0, .int .u8 y.i1, .int .u8 y.i2] := hy
    have gr : Vb 25 b0.drew (w.heap.size + 2) [.int .i64 0, .int .i64 0, .int .u8 0, .int .u8 0, .int .u8 0, .int .u8 0, .int .u8 0, .int .u8 0] := hr
    have gm : Vb 25 b0.drew g [.int .i64 (eithN x.v y.v 0), .int .i64 (eithN x.m y.m (-1)), .int .u8 (bits .or .u8 x.b0 y.b0), .int .u8 x.b1, .int .u8 x.b2, .int .u8 x.i0, .int .u8 x.i1, .int .u8 x.i2] := hn0
    have gB : Below w.heap.size w b0.drew := hB.drew
    clear hx hy hr hn0 hB hf d0 d1 d2 d3 d4 d5 d6 d7 e0 e1 e2 e3 e4 e5 e6 e7
    change wpList _ _ _ _ _ b0.drew
    generalize b0.drew = c0 at *
    have hf := gm.free
    obtain ⟨m0, m1, m2, m3, m4, m5, m6, m7⟩ := gm.c8
    have hx := gx.other (r := g) (by omega) 5 (.int .u8 (bits .or .u8 (bits .and .u8 x.i0 x.b0) (bits .and .u8 y.i0 y.b0)))
    have hy := gy.other (r := g) (by omega) 5 (.int .u8 (bits .or .u8 (bits .and .u8 x.i0 x.b0) (bits .and .u8 y.i0 y.b0)))
    have hr := gr.other (r := g) (by omega) 5 (.int .u8 (bits .or .u8 (bits .and .u8 x.i0 x.b0) (bits .and .u8 y.i0 y.b0)))
    have hm1 : Vb 25 (c0.setCell ⟨g, 5, none⟩ (.int .u8 (bits .or .u8 (bits .and .u8 x.i0 x.b0) (bits .and .u8 y.i0 y.b0)))) g [.int .i64 (eithN x.v y.v 0), .int .i64 (eithN x.m y.m (-1)), .int .u8 (bits .or .u8 x.b0 y.b0), .int .u8 x.b1, .int .u8 x.b2, .int .u8 (bits .or .u8 (bits .and .u8 x.i0 x.b0) (bits .and .u8 y.i0 y.b0)), .int .u8 x.i1, .int .u8 x.i2] := gm.set 5 _
    have hB := gB.setCell (p := ⟨g, 5, none⟩) (by simp; omega) (.int .u8 (bits .or .u8 (bits .and .u8 x.i0 x.b0) (bits .and .u8 y.i0 y.b0)))
    clear gx gy gr gm gB
    go_wp2_with fail
    clear hf m0 m1 m2 m3 m4 m5 m6 m7
    generalize c0.setCell ⟨g, 5, none⟩ (.int .u8 (bits .or .u8 (bits .and .u8 x.i0 x.b0) (bits .and .u8 y.i0 y.b0))) = w2 at *
    have hf := hm1.free
    obtain ⟨d0, d1, d2, d3, d4, d5, d6, d7⟩ := hx.c8
    obtain ⟨e0, e1, e2, e3, e4, e5, e6, e7⟩ := hy.c8
    rw [rounds_succ]
    go_upto_region 11 with fail
    by_cases c1 : (dif x.i1 y.i1 x.b1 y.b1 == 0) = true
    rotate_left
    · have c1' : (dif x.i1 y.i1 x.b1 y.b1 == 0) = false := by simpa using c1
      have n1 : (bits .and .u8 (bits .and .u8 (bits .xor .u8 x.i1 y.i1) x.b1) y.b1 != 0) = true := by unfold dif at c1'; simp only [bne, c1', Bool.not_false]
      have HM := Kp.mk (show meetB x y = false by rw [Hm.out, C0.out, c1']; rfl)
      clear c1 c1'
      go_quiet (fail)
      have gx : Vb 25 (w2.drewN nq) w.heap.size [.int .i64 x.v, .int .i64 x.m, .int .u8 x.b0, .int .u8 x.b1, .int .u8 x.b2, .int .u8 x.i0, .int .u8 x.i1, .int .u8 x.i2] := hx
      have gy : Vb 25 (w2.drewN nq) (w.heap.size + 1) [.int .i64 y.v, .int .i64 y.m, .int .u8 y.b0, .int .u8 y.b1, .int .u8 y.b2, .int .u8 y.i0, .int .u8 y.i1, .int .u8 y.i2] := hy
      have gr : Vb 25 (w2.drewN nq) (w.heap.size + 2) [.int .i64 0, .int .i64 0, .int .u8 0, .int .u8 0, .int .u8 0, .int .u8 0, .int .u8 0, .int .u8 0] := hr
      have gm : Vb 25 (w2.drewN nq) g [.int .i64 (eithN x.v y.v 0), .int .i64 (eithN x.m y.m (-1)), .int .u8 (bits .or .u8 x.b0 y.b0), .int .u8 x.b1, .int .u8 x.b2, .int .u8 (bits .or .u8 (bits .and .u8 x.i0 x.b0) (bits .and .u8 y.i0 y.b0)), .int .u8 x.i1, .int .u8 x.i2] := hm1
      have gB : Below w.heap.size w (w2.drewN nq) := below_drewN hB nq
      clear hx hy hr hm1 hB hf d0 d1 d2 d3 d4 d5 d6 d7 e0 e1 e2 e3 e4 e5 e6 e7
      generalize w2.drewN nq = q1 at *
      go_wp2_with (refine wpList_store_vb (vs := [.int .i64 0, .int .i64 0, .int .u8 0, .int .u8 0, .int .u8 0, .int .u8 0, .int .u8 0, .int .u8 0]) rfl (.tmp 4) (.tmp 78) rfl rfl rfl gr rfl agg_mask rfl ?_; intro w9 hv9 hg9 hz9)
      refine bodyPost_ret (results_pair Try.results37 _ rfl hv9 agg_mask) rfl ?_
      exact Hno.out (HM.out) w9 (gB.grown hg9 (by have := gr.lt; omega) (fun k e => by simp at e; omega))
    have n1 : (bits .and .u8 (bits .and .u8 (bits .xor .u8 x.i1 y.i1) x.b1) y.b1 != 0) = false := by unfold dif at c1; simp only [bne, c1, Bool.not_true]
    have C1 := Kp.mk c1
    clear c1
    go_quiet (fail)
    have gx : Vb 25 (w2.drewN nq) w.heap.size [.int .i64 x.v, .int .i64 x.m, .int .u8 x.b0, .int .u8 x.b1, .int .u8 x.b2, .int .u8 x.i0, .int .u8 x.i1, .int .u8 x.i2] := hx
    have gy : Vb 25 (w2.drewN nq) (w.heap.size + 1) [.int .i64 y.v, .int .i64 y.m, .int .u8 y.b0, .int .u8 y.b1, .int .u8 y.b2, .int .u8 y.i0, .int .u8 y.i1, .int .u8 y.i2] := hy
    have gr : Vb 25 (w2.drewN nq) (w.heap.size + 2) [.int .i64 0, .int .i64 0, .int .u8 0, .int .u8 0, .int .u8 0, .int .u8 0, .int .u8 0, .int .u8 0] := hr
    have gm : Vb 25 (w2.drewN nq) g [.int .i64 (eithN x.v y.v 0), .int .i64 (eithN x.m y.m (-1)), .int .u8 (bits .or .u8 x.b0 y.b0), .int .u8 x.b1, .int .u8 x.b2, .int .u8 (bits .or .u8 (bits .and .u8 x.i0 x.b0) (bits .and .u8 y.i0 y.b0)), .int .u8 x.i1, .int .u8 x.i2] := hm1
    have gB : Below w.heap.size w (w2.drewN nq) := below_drewN hB nq
    clear hx hy hr hm1 hB hf d0 d1 d2 d3 d4 d5 d6 d7 e0 e1 e2 e3 e4 e5 e6 e7
    generalize w2.drewN nq = q1 at *
    clear n1
    have hx := gx
    have hy := gy
    have hr := gr
    have hB := gB
    clear gx gy gr gB
    have hf := gm.free
    obtain ⟨d0, d1, d2, d3, d4, d5, d6, d7⟩ := hx.c8
    obtain ⟨e0, e1, e2, e3, e4, e5, e6, e7⟩ := hy.c8
    go_upto_region 13 with fail
    have hq1 := gm
    clear gm
    go_still_tail 12, (by kernel_rfl)
    have gx : Vb 25 q1.drew w.heap.size [.int .i64 x.v, .int .i64 x.m, .int .u8 x.b0, .int .u8 x.b1, .int .u8 x.b2, .int .u8 x.i0, .int .u8 x.i1, .int .u8 x.i2] := hx
    have gy : Vb 25 q1.drew (w.heap.size + 1) [.int .i64 y.v, .int .i64 y.m, .int .u8 y.b0, .int .u8 y.b1, .int .u8 y.b2, .int .u8 y.i0, .int .u8 y.i1, .int .u8 y.i2] := hy
    have gr : Vb 25 q1.drew (w.heap.size + 2) [.int .i64 0, .int .i64 0, .int .u8 0, .int .u8 0, .int .u8 0, .int .u8 0, .int .u8 0, .int .u8 0] := hr
    have gm : Vb 25 q1.drew g [.int .i64 (eithN x.v y.v 0), .int .i64 (eithN x.m y.m (-1)), .int .u8 (bits .or .u8 x.b0 y.b0), .int .u8 x.b1, .int .u8 x.b2, .int .u8 (bits .or .u8 (bits .and .u8 x.i0 x.b0) (bits .and .u8 y.i0 y.b0)), .int .u8 x.i1, .int .u8 x.i2] := hq1
    have gB : Below w.heap.size w q1.drew := hB.drew
    clear hx hy hr hq1 hB hf d0 d1 d2 d3 d4 d5 d6 d7 e0 e1 e2 e3 e4 e5 e6 e7
    change wpList _ _ _ _ _ q1.drew
    generalize q1.drew = a1 at *
    have hf := gm.free
    obtain ⟨m0, m1, m2, m3, m4, m5, m6, m7⟩ := gm.c8
    have hx := gx.other (r := g) (by omega) 3 (.int .u8 (bits .or .u8 x.b1 y.b1))
    have hy := gy.other (r := g) (by omega) 3 (.int .u8 (bits .or .u8 x.b1 y.b1))
    have hr := gr.other (r := g) (by omega) 3 (.int .u8 (bits .or .u8 x.b1 y.b1))
    have hn1 : Vb 25 (a1.setCell ⟨g, 3, none⟩ (.int .u8 (bits .or .u8 x.b1 y.b1))) g [.int .i64 (eithN x.v y.v 0), .int .i64 (eithN x.m y.m (-1)), .int .u8 (bits .or .u8 x.b0 y.b0), .int .u8 (bits .or .u8 x.b1 y.b1), .int .u8 x.b2, .int .u8 (bits .or .u8 (bits .and .u8 x.i0 x.b0) (bits .and .u8 y.i0 y.b0)), .int .u8 x.i1, .int .u8 x.i2] := gm.set 3 _
    have hB := gB.setCell (p := ⟨g, 3, none⟩) (by simp; omega) (.int .u8 (bits .or .u8 x.b1 y.b1))
    clear gx gy gr gm gB
    go_upto_region 14 with fail
    clear hf m0 m1 m2 m3 m4 m5 m6 m7
    generalize a1.setCell ⟨g, 3, none⟩ (.int .u8 (bits .or .u8 x.b1 y.b1)) = b1 at *
    have hf := hn1.free
    obtain ⟨d0, d1, d2, d3, d4, d5, d6, d7⟩ := hx.c8
    obtain ⟨e0, e1, e2, e3, e4, e5, e6, e7⟩ := hy.c8
    go_still_tail 22, (by kernel_rfl)
    have gx : Vb 25 b1.drew w.heap.size [.int .i64 x.v, .int .i64 x.m, .int .u8 x.b0, .int .u8 x.b1, .int .u8 x.b2, .int .u8 x.i0, .int .u8 x.i1, .int .u8 x.i2] := hx
    have gy : Vb 25 b1.drew (w.heap.size + 1) [.int .i64 y.v, .int .i64 y.m, .int .u8 y.b0, .int .u8 y.b1, .int .u8 y.b2, .int .u8 y.i0, .int .u8 y.i1, .int .u8 y.i2] := hy
    have gr : Vb 25 b1.drew (w.heap.size + 2) [.int .i64 0, .int .i64 0, .int .u8 0, .int .u8 0, .int .u8 0, .int .u8 0, .int .u8 0, .int .u8 0] := hr
    have gm : Vb 25 b1.drew g [.int .i64 (eithN x.v y.v 0), .int .i64 (eithN x.m y.m (-1)), .int .u8 (bits .or .u8 x.b0 y.b0), .int .u8 (bits .or .u8 x.b1 y.b1), .int .u8 x.b2, .int .u8 (bits .or .u8 (bits .and .u8 x.i0 x.b0) (bits .and .u8 y.i0 y.b0)), .int .u8 x.i1, .int .u8 x.i2] := hn1
    have gB : Below w.heap.size w b1.drew := hB.drew
    clear hx hy hr hn1 hB hf d0 d1 d2 d3 d4 d5 d6 d7 e0 e1 e2 e3 e4 e5 e6 e7
    change wpList _ _ _ _ _ b1.drew
    generalize b1.drew = c1 at *
    have hf := gm.free
    obtain ⟨m0, m1, m2, m3, m4, m5, m6, m7⟩ := gm.c8
    have hx := gx.other (r := g) (by omega) 6 (.int .u8 (bits .or .u8 (bits .and .u8 x.i1 x.b1) (bits .and .u8 y.i1 y.b1)))
    have hy := gy.other (r := g) (by omega) 6 (.int .u8 (bits .or .u8 (bits .and .u8 x.i1 x.b1) (bits .and .u8 y.i1 y.b1)))
    have hr := gr.other (r := g) (by omega) 6 (.int .u8 (bits .or .u8 (bits .and .u8 x.i1 x.b1) (bits .and .u8 y.i1 y.b1)))
    have hm2 : Vb 25 (c1.setCell ⟨g, 6, none⟩ (.int .u8 (bits .or .u8 (bits .and .u8 x.i1 x.b1) (bits .and .u8 y.i1 y.b1)))) g [.int .i64 (eithN x.v y.v 0), .int .i64 (eithN x.m y.m (-1)), .int .u8 (bits .or .u8 x.b0 y.b0), .int .u8 (bits .or .u8 x.b1 y.b1), .int .u8 x.b2, .int .u8 (bits .or .u8 (bits .and .u8 x.i0 x.b0) (bits .and .u8 y.i0 y.b0)), .int .u8 (bits .or .u8 (bits .and .u8 x.i1 x.b1) (bits .and .u8 y.i1 y.b1)), .int .u8 x.i2] := gm.set 6 _
    have hB := gB.setCell (p := ⟨g, 6, none⟩) (by simp; omega) (.int .u8 (bits .or .u8 (bits .and .u8 x.i1 x.b1) (bits .and .u8 y.i1 y.b1)))
    clear gx gy gr gm gB
    go_wp2_with fail
    clear hf m0 m1 m2 m3 m4 m5 m6 m7
    generalize c1.setCell ⟨g, 6, none⟩ (.int .u8 (bits .or .u8 (bits .and .u8 x.i1 x.b1) (bits .and .u8 y.i1 y.b1))) = w3 at *
    have hf := hm2.free
    obtain ⟨d0, d1, d2, d3, d4, d5, d6, d7⟩ := hx.c8
    obtain ⟨e0, e1, e2, e3, e4, e5, e6, e7⟩ := hy.c8
    rw [rounds_succ]
    go_upto_region 11 with fail
    by_cases c2 : (dif x.i2 y.i2 x.b2 y.b2 == 0) = true
    rotate_left
    · have c2' : (dif x.i2 y.i2 x.b2 y.b2 == 0) = false := by simpa using c2
      have n2 : (bits .and .u8 (bits .and .u8 (bits .xor .u8 x.i2 y.i2) x.b2) y.b2 != 0) = true := by unfold dif at c2'; simp only [bne, c2', Bool.not_false]
      have HM := Kp.mk (show meetB x y = false by rw [Hm.out, C0.out, C1.out, c2']; rfl)
      clear c2 c2'
      go_quiet (fail)
      have gx : Vb 25 (w3.drewN nq) w.heap.size [.int .i64 x.v, .int .i64 x.m, .int .u8 x.b0, .int .u8 x.b1, .int .u8 x.b2, .int .u8 x.i0, .int .u8 x.i1, .int .u8 x.i2] := hx
      have gy : Vb 25 (w3.drewN nq) (w.heap.size + 1) [.int .i64 y.v, .int .i64 y.m, .int .u8 y.b0, .int .u8 y.b1, .int .u8 y.b2, .int .u8 y.i0, .int .u8 y.i1, .int .u8 y.i2] := hy
      have gr : Vb 25 (w3.drewN nq) (w.heap.size + 2) [.int .i64 0, .int .i64 0, .int .u8 0, .int .u8 0, .int .u8 0, .int .u8 0, .int .u8 0, .int .u8 0] := hr
      have gm : Vb 25 (w3.drewN nq) g [.int .i64 (eithN x.v y.v 0), .int .i64 (eithN x.m y.m (-1)), .int .u8 (bits .or .u8 x.b0 y.b0), .int .u8 (bits .or .u8 x.b1 y.b1), .int .u8 x.b2, .int .u8 (bits .or .u8 (bits .and .u8 x.i0 x.b0) (bits .and .u8 y.i0 y.b0)), .int .u8 (bits .or .u8 (bits .and .u8 x.i1 x.b1) (bits .and .u8 y.i1 y.b1)), .int .u8 x.i2] := hm2
      have gB : Below w.heap.size w (w3.drewN nq) := below_drewN hB nq
      clear hx hy hr hm2 hB hf d0 d1 d2 d3 d4 d5 d6 d7 e0 e1 e2 e3 e4 e5 e6 e7
      generalize w3.drewN nq = q2 at *
      go_wp2_with (refine wpList_store_vb (vs := [.int .i64 0, .int .i64 0, .int .u8 0, .int .u8 0, .int .u8 0, .int .u8 0, .int .u8 0, .int .u8 0]) rfl (.tmp 4) (.tmp 78) rfl rfl rfl gr rfl agg_mask rfl ?_; intro w9 hv9 hg9 hz9)
      refine bodyPost_ret (results_pair Try.results37 _ rfl hv9 agg_mask) rfl ?_
      exact Hno.out (HM.out) w9 (gB.grown hg9 (by have := gr.lt; omega) (fun k e => by simp at e; omega))
    have n2 : (bits .and .u8 (bits .and .u8 (bits .xor .u8 x.i2 y.i2) x.b2) y.b2 != 0) = false := by unfold dif at c2; simp only [bne, c2, Bool.not_true]
    have C2 := Kp.mk c2
    clear c2
    go_quiet (fail)
    have gx : Vb 25 (w3.drewN nq) w.heap.size [.int .i64 x.v, .int .i64 x.m, .int .u8 x.b0, .int .u8 x.b1, .int .u8 x.b2, .int .u8 x.i0, .int .u8 x.i1, .int .u8 x.i2] := hx
    have gy : Vb 25 (w3.drewN nq) (w.heap.size + 1) [.int .i64 y.v, .int .i64 y.m, .int .u8 y.b0, .int .u8 y.b1, .int .u8 y.b2, .int .u8 y.i0, .int .u8 y.i1, .int .u8 y.i2] := hy
    have gr : Vb 25 (w3.drewN nq) (w.heap.size + 2) [.int .i64 0, .int .i64 0, .int .u8 0, .int .u8 0, .int .u8 0, .int .u8 0, .int .u8 0, .int .u8 0] := hr
    have gm : Vb 25 (w3.drewN nq) g [.int .i64 (eithN x.v y.v 0), .int .i64 (eithN x.m y.m (-1)), .int .u8 (bits .or .u8 x.b0 y.b0), .int .u8 (bits .or .u8 x.b1 y.b1), .int .u8 x.b2, .int .u8 (bits .or .u8 (bits .and .u8 x.i0 x.b0) (bits .and .u8 y.i0 y.b0)), .int .u8 (bits .or .u8 (bits .and .u8 x.i1 x.b1) (bits .and .u8 y.i1 y.b1)), .int .u8 x.i2] := hm2
    have gB : Below w.heap.size w (w3.drewN nq) := below_drewN hB nq
    clear hx hy hr hm2 hB hf d0 d1 d2 d3 d4 d5 d6 d7 e0 e1 e2 e3 e4 e5 e6 e7
    generalize w3.drewN nq = q2 at *
    clear n2
    have hx := gx
    have hy := gy
    have hr := gr
    have hB := gB
    clear gx gy gr gB
    have hf := gm.free
    obtain ⟨d0, d1, d2, d3, d4, d5, d6, d7⟩ := hx.c8
    obtain ⟨e0, e1, e2, e3, e4, e5, e6, e7⟩ := hy.c8
    go_upto_region 13 with fail
    have hq2 := gm
    clear gm
    go_still_tail 12, (by kernel_rfl)
    have gx : Vb 25 q2.drew w.heap.size [.int .i64 x.v, .int .i64 x.m, .int .u8 x.b0, .int .u8 x.b1, .int .u8 x.b2, .int .u8 x.i0, .int .u8 x.i1, .int .u8 x.i2] := hx
    have gy : Vb 25 q2.drew (w.heap.size + 1) [.int .i64 y.v, .int .i64 y.m, .int .u8 y.b0, .int .u8 y.b1, .int .u8 y.b2, .int .u8 y.i0, .int .u8 y.i1, .int .u8 y.i2] := hy
    have gr : Vb 25 q2.drew (w.heap.size + 2) [.int .i64 0, .int .i64 0, .int .u8 0, .int .u8 0, .int .u8 0, .int .u8 0, .int .u8 0, .int .u8 0] := hr
    have gm : Vb 25 q2.drew g [.int .i64 (eithN x.v y.v 0), .int .i64 (eithN x.m y.m (-1)), .int .u8 (bits .or .u8 x.b0 y.b0), .int .u8 (bits .or .u8 x.b1 y.b1), .int .u8 x.b2, .int .u8 (bits .or .u8 (bits .and .u8 x.i0 x.b0) (bits .and .u8 y.i0 y.b0)), .int .u8 (bits .or .u8 (bits .and .u8 x.i1 x.b1) (bits .and .u8 y.i1 y.b1)), .int .u8 x.i2] := hq2
    have gB : Below w.heap.size w q2.drew := hB.drew
    clear hx hy hr hq2 hB hf d0 d1 d2 d3 d4 d5 d6 d7 e0 e1 e2 e3 e4 e5 e6 e7
    change wpList _ _ _ _ _ q2.drew
    generalize q2.drew = a2 at *
    have hf := gm.free
    obtain ⟨m0, m1, m2, m3, m4, m5, m6, m7⟩ := gm.c8
    have hx := gx.other (r := g) (by omega) 4 (.int .u8 (bits .or .u8 x.b2 y.b2))
    have hy := gy.other (r := g) (by omega) 4 (.int .u8 (bits .or .u8 x.b2 y.b2))
    have hr := gr.other (r := g) (by omega) 4 (.int .u8 (bits .or .u8 x.b2 y.b2))
    have hn2 : Vb 25 (a2.setCell ⟨g, 4, none⟩ (.int .u8 (bits .or .u8 x.b2 y.b2))) g [.int .i64 (eithN x.v y.v 0), .int .i64 (eithN x.m y.m (-1)), .int .u8 (bits .or .u8 x.b0 y.b0), .int .u8 (bits .or .u8 x.b1 y.b1), .int .u8 (bits .or .u8 x.b2 y.b2), .int .u8 (bits .or .u8 (bits .and .u8 x.i0 x.b0) (bits .and .u8 y.i0 y.b0)), .int .u8 (bits .or .u8 (bits .and .u8 x.i1 x.b1) (bits .and .u8 y.i1 y.b1)), .int .u8 x.i2] := gm.set 4 _
    have hB := gB.setCell (p := ⟨g, 4, none⟩) (by simp; omega) (.int .u8 (bits .or .u8 x.b2 y.b2))
    clear gx gy gr gm gB
    go_upto_region 14 with fail
    clear hf m0 m1 m2 m3 m4 m5 m6 m7
    generalize a2.setCell ⟨g, 4, none⟩ (.int .u8 (bits .or .u8 x.b2 y.b2)) = b2 at *
    have hf := hn2.free
    obtain ⟨d0, d1, d2, d3, d4, d5, d6, d7⟩ := hx.c8
    obtain ⟨e0, e1, e2, e3, e4, e5, e6, e7⟩ := hy.c8
    go_still_tail 22, (by kernel_rfl)
    have gx : Vb 25 b2.drew w.heap.size [.int .i64 x.v, .int .i64 x.m, .int .u8 x.b0, .int .u8 x.b1, .int .u8 x.b2, .int .u8 x.i0, .int .u8 x.i1, .int .u8 x.i2] := hx
    have gy : Vb 25 b2.drew (w.heap.size + 1) [.int .i64 y.v, .int .i64 y.m, .int .u8 y.b0, .int .u8 y.b1, .int .u8 y.b2, .int .u8 y.i0, .int .u8 y.i1, .int .u8 y.i2] := hy
    have gr : Vb 25 b2.drew (w.heap.size + 2) [.int .i64 0, .int .i64 0, .int .u8 0, .int .u8 0, .int .u8 0, .int .u8 0, .int .u8 0, .int .u8 0] := hr
    have gm : Vb 25 b2.drew g [.int .i64 (eithN x.v y.v 0), .int .i64 (eithN x.m y.m (-1)), .int .u8 (bits .or .u8 x.b0 y.b0), .int .u8 (bits .or .u8 x.b1 y.b1), .int .u8 (bits .or .u8 x.b2 y.b2), .int .u8 (bits .or .u8 (bits .and .u8 x.i0 x.b0) (bits .and .u8 y.i0 y.b0)), .int .u8 (bits .or .u8 (bits .and .u8 x.i1 x.b1) (bits .and .u8 y.i1 y.b1)), .int .u8 x.i2] := hn2
    have gB : Below w.heap.size w b2.drew := hB.drew
    clear hx hy hr hn2 hB hf d0 d1 d2 d3 d4 d5 d6 d7 e0 e1 e2 e3 e4 e5 e6 e7
    change wpList _ _ _ _ _ b2.drew
    generalize b2.drew = c2 at *
    have hf := gm.free
    obtain ⟨m0, m1, m2, m3, m4, m5, m6, m7⟩ := gm.c8
    have hx := gx.other (r := g) (by omega) 7 (.int .u8 (bits .or .u8 (bits .and .u8 x.i2 x.b2) (bits .and .u8 y.i2 y.b2)))
    have hy := gy.other (r := g) (by omega) 7 (.int .u8 (bits .or .u8 (bits .and .u8 x.i2 x.b2) (bits .and .u8 y.i2 y.b2)))
    have hr := gr.other (r := g) (by omega) 7 (.int .u8 (bits .or .u8 (bits .and .u8 x.i2 x.b2) (bits .and .u8 y.i2 y.b2)))
    have hm3 : Vb 25 (c2.setCell ⟨g, 7, none⟩ (.int .u8 (bits .or .u8 (bits .and .u8 x.i2 x.b2) (bits .and .u8 y.i2 y.b2)))) g [.int .i64 (eithN x.v y.v 0), .int .i64 (eithN x.m y.m (-1)), .int .u8 (bits .or .u8 x.b0 y.b0), .int .u8 (bits .or .u8 x.b1 y.b1), .int .u8 (bits .or .u8 x.b2 y.b2), .int .u8 (bits .or .u8 (bits .and .u8 x.i0 x.b0) (bits .and .u8 y.i0 y.b0)), .int .u8 (bits .or .u8 (bits .and .u8 x.i1 x.b1) (bits .and .u8 y.i1 y.b1)), .int .u8 (bits .or .u8 (bits .and .u8 x.i2 x.b2) (bits .and .u8 y.i2 y.b2))] := gm.set 7 _
    have hB := gB.setCell (p := ⟨g, 7, none⟩) (by simp; omega) (.int .u8 (bits .or .u8 (bits .and .u8 x.i2 x.b2) (bits .and .u8 y.i2 y.b2)))
    clear gx gy gr gm gB
    go_wp2_with fail
    clear hf m0 m1 m2 m3 m4 m5 m6 m7
    generalize c2.setCell ⟨g, 7, none⟩ (.int .u8 (bits .or .u8 (bits .and .u8 x.i2 x.b2) (bits .and .u8 y.i2 y.b2))) = w4 at *
    have hf := hm3.free
    obtain ⟨d0, d1, d2, d3, d4, d5, d6, d7⟩ := hx.c8
    obtain ⟨e0, e1, e2, e3, e4, e5, e6, e7⟩ := hy.c8
    rw [rounds_succ]
    clear hf d0 d1 d2 d3 d4 d5 d6 d7 e0 e1 e2 e3 e4 e5 e6 e7
    go_wp2_with (first | refine wpList_load_vb (vs := [.int .i64 (eithN x.v y.v 0), .int .i64 (eithN x.m y.m (-1)), .int .u8 (bits .or .u8 x.b0 y.b0), .int .u8 (bits .or .u8 x.b1 y.b1), .int .u8 (bits .or .u8 x.b2 y.b2), .int .u8 (bits .or .u8 (bits .and .u8 x.i0 x.b0) (bits .and .u8 y.i0 y.b0)), .int .u8 (bits .or .u8 (bits .and .u8 x.i1 x.b1) (bits .and .u8 y.i1 y.b1)), .int .u8 (bits .or .u8 (bits .and .u8 x.i2 x.b2) (bits .and .u8 y.i2 y.b2))]) rfl (.tmp 6) rfl rfl hm3 rfl agg_mask ?_ | (refine wpList_store_vb (vs := [.int .i64 (eithN x.v y.v 0), .int .i64 (eithN x.m y.m (-1)), .int .u8 (bits .or .u8 x.b0 y.b0), .int .u8 (bits .or .u8 x.b1 y.b1), .int .u8 (bits .or .u8 x.b2 y.b2), .int .u8 (bits .or .u8 (bits .and .u8 x.i0 x.b0) (bits .and .u8 y.i0 y.b0)), .int .u8 (bits .or .u8 (bits .and .u8 x.i1 x.b1) (bits .and .u8 y.i1 y.b1)), .int .u8 (bits .or .u8 (bits .and .u8 x.i2 x.b2) (bits .and .u8 y.i2 y.b2))]) rfl (.tmp 4) (.tmp 113) rfl rfl rfl hr rfl agg_mask rfl ?_; intro w9 hv9 hg9 hz9))
    refine bodyPost_ret (results_pair Try.results37 _ rfl hv9 agg_mask) rfl ?_
    exact Hyes.out (by rw [Hm.out, C0.out, C1.out, C2.out]; rfl) w9 (hB.grown hg9 (by have := hr.lt; omega) (fun k e => by simp at e; omega))
set_option maxRecDepth 100000 in
set_option maxHeartbeats 4000000 in
theorem refOnlyM_any (x : MaskV) (f b i : Int) (w : World) : Calls Try.prog 41 #[.agg #[.int .i64 x.v, .int .i64 x.m, .int .u8 x.b0, .int .u8 x.b1, .int .u8 x.b2, .int .u8 x.i0, .int .u8 x.i1, .int .u8 x.i2], .int .i64 f, .int .u8 b, .int .u8 i] w (OnlyOf x f b i w) := by
  have hx : Vb 25 ((w.alloc (.cells #[.int .i64 x.v, .int .i64 x.m, .int .u8 x.b0, .int .u8 x.b1, .int .u8 x.b2, .int .u8 x.i0, .int .u8 x.i1, .int .u8 x.i2] 25)).alloc (.cells #[.int .i64 0, .int .i64 0, .int .u8 0, .int .u8 0, .int .u8 0, .int .u8 0, .int .u8 0, .int .u8 0] 25)) w.heap.size [.int .i64 x.v, .int .i64 x.m, .int .u8 x.b0, .int .u8 x.b1, .int .u8 x.b2, .int .u8 x.i0, .int .u8 x.i1, .int .u8 x.i2] := (Vb.new 25 w (mcl x)).alloc _
  have hr : Vb 25 ((w.alloc (.cells #[.int .i64 x.v, .int .i64 x.m, .int .u8 x.b0, .int .u8 x.b1, .int .u8 x.b2, .int .u8 x.i0, .int .u8 x.i1, .int .u8 x.i2] 25)).alloc (.cells #[.int .i64 0, .int .i64 0, .int .u8 0, .int .u8 0, .int .u8 0, .int .u8 0, .int .u8 0, .int .u8 0] 25)) (w.heap.size + 1) [.int .i64 0, .int .i64 0, .int .u8 0, .int .u8 0, .int .u8 0, .int .u8 0, .int .u8 0, .int .u8 0] := by have := Vb.new 25 (w.alloc (.cells #[.int .i64 x.v, .int .i64 x.m, .int .u8 x.b0, .int .u8 x.b1, .int .u8 x.b2, .int .u8 x.i0, .int .u8 x.i1, .int .u8 x.i2] 25)) (mcl noMask); simpa [mcl, noMask] using this
  have hB := below_two w (.cells #[.int .i64 x.v, .int .i64 x.m, .int .u8 x.b0, .int .u8 x.b1, .int .u8 x.b2, .int .u8 x.i0, .int .u8 x.i1, .int .u8 x.i2] 25) (.cells #[.int .i64 0, .int .i64 0, .int .u8 0, .int .u8 0, .int .u8 0, .int .u8 0, .int .u8 0, .int .u8 0] 25)
  have Hno := Kp.mk (fun (h : ¬ (0 ≤ f ∧ f < 3)) (w' : World) (hb : Below w.heap.size w w') => OnlyOf.no (x := x) (b := b) (i := i) h hb)
  have Hyes := Kp.mk (fun (h : 0 ≤ f ∧ f < 3) (w' : World) (hb : Below w.heap.size w w') => OnlyOf.yes (x := x) (b := b) (i := i) h hb)
  generalize OnlyOf x f b i w = P at *
  go_enter Try.func41, Try.ntmps41
  go_upto_region 1 with fail
  generalize (w.alloc (.cells #[.int .i64 x.v, .int .i64 x.m, .int .u8 x.b0, .int .u8 x.b1, .int .u8 x.b2, .int .u8 x.i0, .int .u8 x.i1, .int .u8 x.i2] 25)).alloc (.cells #[.int .i64 0, .int .i64 0, .int .u8 0, .int .u8 0, .int .u8 0, .int .u8 0, .int .u8 0, .int .u8 0] 25) = w0 at *
  by_cases c1 : f < 0
  · go_wp2_with (refine wpList_store_vb (vs := [.int .i64 0, .int .i64 0, .int .u8 0, .int .u8 0, .int .u8 0, .int .u8 0, .int .u8 0, .int .u8 0]) rfl (.tmp 8) (.tmp 17) rfl rfl rfl hr rfl agg_mask rfl ?_; intro w9 hv9 hg9 hz9)
    refine bodyPost_ret (results_pair Try.results41 _ rfl hv9 agg_mask) rfl ?_
    exact Hno.out (by omega) w9 (hB.grown hg9 (by have := hr.lt; omega) (fun k e => by simp at e; omega))
  by_cases c2 : 2 < f
  · go_wp2_with (refine wpList_store_vb (vs := [.int .i64 0, .int .i64 0, .int .u8 0, .int .u8 0, .int .u8 0, .int .u8 0, .int .u8 0, .int .u8 0]) rfl (.tmp 8) (.tmp 17) rfl rfl rfl hr rfl agg_mask rfl ?_; intro w9 hv9 hg9 hz9)
    refine bodyPost_ret (results_pair Try.results41 _ rfl hv9 agg_mask) rfl ?_
    exact Hno.out (by omega) w9 (hB.grown hg9 (by have := hr.lt; omega) (fun k e => by simp at e; omega))
  go_wp2_with fail
  refine (refAnyM_any _).mono ?_
  rintro e w1 ⟨rfl, hb1⟩
  have hlt : w.heap.size + 1 < w0.heap.size := hr.lt
  replace hx := hx.below hb1 (by omega)
  replace hr := hr.below hb1 (by omega)
  replace hB := hB.trans (hb1.mono (by omega))
  replace hlt : w.heap.size + 1 < w1.heap.size := by have := hb1.size; omega
  clear hb1
  go_upto_region 4 with (refine wpList_store_new (vs := mcl anyM) rfl (.tmp 10) (.tmp 18) rfl rfl rfl rfl rfl rfl agg_mask rfl ?_; intro w2 hm hb2 hz2)
  replace hx := hx.below hb2 (by omega)
  replace hr := hr.below hb2 (by omega)
  replace hB := hB.trans (hb2.mono (by omega))
  clear hb2 hz2
  generalize w1.heap.size = g at *
  have hm : Vb 25 w2 g [.int .i64 0, .int .i64 (-1), .int .u8 0, .int .u8 0, .int .u8 0, .int .u8 0, .int .u8 0, .int .u8 0] := hm
  by_cases f0 : f = 0
  · subst f0
    have hf := hm.free
    obtain ⟨m0, m1, m2, m3, m4, m5, m6, m7⟩ := hm.c8
    have hn : Vb 25 ((w2.setCell ⟨g, 2, none⟩ (.int .u8 b)).setCell ⟨g, 5, none⟩ (.int .u8 i)) g [.int .i64 0, .int .i64 (-1), .int .u8 b, .int .u8 0, .int .u8 0, .int .u8 i, .int .u8 0, .int .u8 0] := (hm.set 2 (.int .u8 b)).set 5 _
    have hxn := (hx.other (r := g) (by omega) 2 (.int .u8 b)).other (r := g) (by omega) 5 (.int .u8 i)
    have hrn := (hr.other (r := g) (by omega) 2 (.int .u8 b)).other (r := g) (by omega) 5 (.int .u8 i)
    have hBn := (hB.setCell (p := ⟨g, 2, none⟩) (by simp; omega) (.int .u8 b)).setCell (p := ⟨g, 5, none⟩) (by simp; omega) (.int .u8 i)
    go_upto_region 6 with fail
    clear hf m0 m1 m2 m3 m4 m5 m6 m7 hm hx hr hB
    generalize (w2.setCell ⟨g, 2, none⟩ (.int .u8 b)).setCell ⟨g, 5, none⟩ (.int .u8 i) = w3 at *
    go_wp2_with (first | refine wpList_load_vb (vs := [.int .i64 x.v, .int .i64 x.m, .int .u8 x.b0, .int .u8 x.b1, .int .u8 x.b2, .int .u8 x.i0, .int .u8 x.i1, .int .u8 x.i2]) rfl (.tmp 4) rfl rfl hxn rfl agg_mask ?_ | refine wpList_load_vb (vs := [.int .i64 0, .int .i64 (-1), .int .u8 b, .int .u8 0, .int .u8 0, .int .u8 i, .int .u8 0, .int .u8 0]) rfl (.tmp 10) rfl rfl hn rfl agg_mask ?_)
    refine (refMeet_any x (saysM 0 b i) _).mono ?_
    rintro e w4 ⟨rfl, hb4⟩
    have hm1 : (mcl (meetV x (saysM 0 b i))).toArray = #[.int .i64 (meetV x (saysM 0 b i)).v, .int .i64 (meetV x (saysM 0 b i)).m, .int .u8 (meetV x (saysM 0 b i)).b0, .int .u8 (meetV x (saysM 0 b i)).b1, .int .u8 (meetV x (saysM 0 b i)).b2, .int .u8 (meetV x (saysM 0 b i)).i0, .int .u8 (meetV x (saysM 0 b i)).i1, .int .u8 (meetV x (saysM 0 b i)).i2] := rfl
    rw [hm1]
    clear hm1
    have H5 := Kp.mk (Hyes.out (by omega))
    replace hrn := hrn.below hb4 hrn.lt
    replace hBn := hBn.trans (hb4.mono (by have := hn.lt; omega))
    clear hxn hn Hyes Hno hb4
    generalize meetV x (saysM 0 b i) = m at *
    generalize meetB x (saysM 0 b i) = k at *
    go_wp2_with (refine wpList_store_vb (vs := [.int .i64 m.v, .int .i64 m.m, .int .u8 m.b0, .int .u8 m.b1, .int .u8 m.b2, .int .u8 m.i0, .int .u8 m.i1, .int .u8 m.i2]) rfl (.tmp 8) (.tmp 30) rfl rfl rfl hrn rfl agg_mask rfl ?_; intro w9 hv9 hg9 hz9)
    refine bodyPost_ret (results_pair Try.results41 _ rfl hv9 agg_mask) rfl ?_
    exact H5.out w9 (hBn.grown hg9 (by have := hrn.lt; omega) (fun k e => by simp at e; omega))
  by_cases f1 : f = 1
  · subst f1
    have hf := hm.free
    obtain ⟨m0, m1, m2, m3, m4, m5, m6, m7⟩ := hm.c8
    have hn : Vb 25 ((w2.setCell ⟨g, 3, none⟩ (.int .u8 b)).setCell ⟨g, 6, none⟩ (.int .u8 i)) g [.int .i64 0, .int .i64 (-1), .int .u8 0, .int .u8 b, .int .u8 0, .int .u8 0, .int .u8 i, .int .u8 0] := (hm.set 3 (.int .u8 b)).set 6 _
    have hxn := (hx.other (r := g) (by omega) 3 (.int .u8 b)).other (r := g) (by omega) 6 (.int .u8 i)
    have hrn := (hr.other (r := g) (by omega) 3 (.int .u8 b)).other (r := g) (by omega) 6 (.int .u8 i)
    have hBn := (hB.setCell (p := ⟨g, 3, none⟩) (by simp; omega) (.int .u8 b)).setCell (p := ⟨g, 6, none⟩) (by simp; omega) (.int .u8 i)
    go_upto_region 6 with fail
    clear hf m0 m1 m2 m3 m4 m5 m6 m7 hm hx hr hB
    generalize (w2.setCell ⟨g, 3, none⟩ (.int .u8 b)).setCell ⟨g, 6, none⟩ (.int .u8 i) = w3 at *
    go_wp2_with (first | refine wpList_load_vb (vs := [.int .i64 x.v, .int .i64 x.m, .int .u8 x.b0, .int .u8 x.b1, .int .u8 x.b2, .int .u8 x.i0, .int .u8 x.i1, .int .u8 x.i2]) rfl (.tmp 4) rfl rfl hxn rfl agg_mask ?_ | refine wpList_load_vb (vs := [.int .i64 0, .int .i64 (-1), .int .u8 0, .int .u8 b, .int .u8 0, .int .u8 0, .int .u8 i, .int .u8 0]) rfl (.tmp 10) rfl rfl hn rfl agg_mask ?_)
    refine (refMeet_any x (saysM 1 b i) _).mono ?_
    rintro e w4 ⟨rfl, hb4⟩
    have hm1 : (mcl (meetV x (saysM 1 b i))).toArray = #[.int .i64 (meetV x (saysM 1 b i)).v, .int .i64 (meetV x (saysM 1 b i)).m, .int .u8 (meetV x (saysM 1 b i)).b0, .int .u8 (meetV x (saysM 1 b i)).b1, .int .u8 (meetV x (saysM 1 b i)).b2, .int .u8 (meetV x (saysM 1 b i)).i0, .int .u8 (meetV x (saysM 1 b i)).i1, .int .u8 (meetV x (saysM 1 b i)).i2] := rfl
    rw [hm1]
    clear hm1
    have H5 := Kp.mk (Hyes.out (by omega))
    replace hrn := hrn.below hb4 hrn.lt
    replace hBn := hBn.trans (hb4.mono (by have := hn.lt; omega))
    clear hxn hn Hyes Hno hb4
    generalize meetV x (saysM 1 b i) = m at *
    generalize meetB x (saysM 1 b i) = k at *
    go_wp2_with (refine wpList_store_vb (vs := [.int .i64 m.v, .int .i64 m.m, .int .u8 m.b0, .int .u8 m.b1, .int .u8 m.b2, .int .u8 m.i0, .int .u8 m.i1, .int .u8 m.i2]) rfl (.tmp 8) (.tmp 30) rfl rfl rfl hrn rfl agg_mask rfl ?_; intro w9 hv9 hg9 hz9)
    refine bodyPost_ret (results_pair Try.results41 _ rfl hv9 agg_mask) rfl ?_
    exact H5.out w9 (hBn.grown hg9 (by have := hrn.lt; omega) (fun k e => by simp at e; omega))
  obtain rfl : f = 2 := by omega
  have hf := hm.free
  obtain ⟨m0, m1, m2, m3, m4, m5, m6, m7⟩ := hm.c8
  have hn : Vb 25 ((w2.setCell ⟨g, 4, none⟩ (.int .u8 b)).setCell ⟨g, 7, none⟩ (.int .u8 i)) g [.int .i64 0, .int .i64 (-1), .int .u8 0, .int .u8 0, .int .u8 b, .int .u8 0, .int .u8 0, .int .u8 i] := (hm.set 4 (.int .u8 b)).set 7 _
  have hxn := (hx.other (r := g) (by omega) 4 (.int .u8 b)).other (r := g) (by omega) 7 (.int .u8 i)
  have hrn := (hr.other (r := g) (by omega) 4 (.int .u8 b)).other (r := g) (by omega) 7 (.int .u8 i)
  have hBn := (hB.setCell (p := ⟨g, 4, none⟩) (by simp; omega) (.int .u8 b)).setCell (p := ⟨g, 7, none⟩) (by simp; omega) (.int .u8 i)
  go_upto_region 6 with fail
  clear hf m0 m1 m2 m3 m4 m5 m6 m7 hm hx hr hB
  generalize (w2.setCell ⟨g, 4, none⟩ (.int .u8 b)).setCell ⟨g, 7, none⟩ (.int .u8 i) = w3 at *
  go_wp2_with (first | refine wpList_load_vb (vs := [.int .i64 x.v, .int .i64 x.m, .int .u8 x.b0, .int .u8 x.b1, .int .u8 x.b2, .int .u8 x.i0, .int .u8 x.i1, .int .u8 x.i2]) rfl (.tmp 4) rfl rfl hxn rfl agg_mask ?_ | refine wpList_load_vb (vs := [.int .i64 0, .int .i64 (-1), .int .u8 0, .int .u8 0, .int .u8 b, .int .u8 0, .int .u8 0, .int .u8 i]) rfl (.tmp 10) rfl rfl hn rfl agg_mask ?_)
  refine (refMeet_any x (saysM 2 b i) _).mono ?_
  rintro e w4 ⟨rfl, hb4⟩
  have hm1 : (mcl (meetV x (saysM 2 b i))).toArray = #[.int .i64 (meetV x (saysM 2 b i)).v, .int .i64 (meetV x (saysM 2 b i)).m, .int .u8 (meetV x (saysM 2 b i)).b0, .int .u8 (meetV x (saysM 2 b i)).b1, .int .u8 (meetV x (saysM 2 b i)).b2, .int .u8 (meetV x (saysM 2 b i)).i0, .int .u8 (meetV x (saysM 2 b i)).i1, .int .u8 (meetV x (saysM 2 b i)).i2] := rfl
  rw [hm1]
  clear hm1
  have H5 := Kp.mk (Hyes.out (by omega))
  replace hrn := hrn.below hb4 hrn.lt
  replace hBn := hBn.trans (hb4.mono (by have := hn.lt; omega))
  clear hxn hn Hyes Hno hb4
  generalize meetV x (saysM 2 b i) = m at *
  generalize meetB x (saysM 2 b i) = k at *
  go_wp2_with (refine wpList_store_vb (vs := [.int .i64 m.v, .int .i64 m.m, .int .u8 m.b0, .int .u8 m.b1, .int .u8 m.b2, .int .u8 m.i0, .int .u8 m.i1, .int .u8 m.i2]) rfl (.tmp 8) (.tmp 30) rfl rfl rfl hrn rfl agg_mask rfl ?_; intro w9 hv9 hg9 hz9)
  refine bodyPost_ret (results_pair Try.results41 _ rfl hv9 agg_mask) rfl ?_
  exact H5.out w9 (hBn.grown hg9 (by have := hrn.lt; omega) (fun k e => by simp at e; omega))

end Go.Proofs.Ytaaflgaeeldkhaa.Oct
