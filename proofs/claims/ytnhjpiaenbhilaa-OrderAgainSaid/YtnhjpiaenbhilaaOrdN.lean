/- Contracts of layer 6: a rule is read, the program. -/
import Derived.Test.YtnhjpiaenbhilaaOrdM
namespace Go.Proofs.Ytnhjpiaenbhilaa.Oct
open Go.RowKit
set_option linter.unusedVariables false
set_option linter.unusedSimpArgs false

set_option maxRecDepth 100000 in
set_option maxHeartbeats 1600000 in
theorem readHeader_any {w : World} {lo g : Nat} {l l1 l2 l3 : List Int} {e e1 e2 e3 a b c : Int} (hR : Rdr 100 w lo g l e) (h1 : nu 1 (l, e) = (a, (l1, e1))) (h2 : nu 1 (l1, e1) = (b, (l2, e2))) (h3 : nu 1 (l2, e2) = (c, (l3, e3))) :
    Calls Try.prog 103 #[.pointer (some ⟨g, 0, none⟩)] w (AggRdr 100 w lo g [.int .u8 a, .int .u8 b, .int .u8 c] l3 e3) := by
  have hlt := hR.lt
  obtain ⟨⟨a1, a2⟩, hy1⟩ := nu1_bd hR.by_ h1
  obtain ⟨⟨b1, b2⟩, hy2⟩ := nu1_bd hy1 h2
  obtain ⟨⟨c1, c2⟩, hy3⟩ := nu1_bd hy2 h3
  have H1 := Kp.mk h1
  have H2 := Kp.mk h2
  have H3 := Kp.mk h3
  clear h1 h2 h3 hy1 hy2 hy3
  have au : a % 256 = a := by omega
  have bu : b % 256 = b := by omega
  have cu : c % 256 = c := by omega
  have hG0 : w.grownBy ((w.alloc (.cells #[.int .u8 0, .int .u8 0, .int .u8 0] 23)).alloc (.cells #[.int .u8 0, .int .u8 0, .int .u8 0] 23)) (some g) := grown_of_below (below_two w _ _) _
  have hR0 := hR.below (below_two w (.cells #[.int .u8 0, .int .u8 0, .int .u8 0] 23) (.cells #[.int .u8 0, .int .u8 0, .int .u8 0] 23))
  have hvR := (Vb.new 23 w [.int .u8 0, .int .u8 0, .int .u8 0]).alloc (.cells #[.int .u8 0, .int .u8 0, .int .u8 0] 23)
  have hvH := Vb.new 23 (w.alloc (.cells #[.int .u8 0, .int .u8 0, .int .u8 0] 23)) [.int .u8 0, .int .u8 0, .int .u8 0]
  rw [alloc_size] at hvH
  have hz0 : w.heap.size < ((w.alloc (.cells #[.int .u8 0, .int .u8 0, .int .u8 0] 23)).alloc (.cells #[.int .u8 0, .int .u8 0, .int .u8 0] 23)).heap.size := by simp; omega
  go_enter Try.func103, Try.ntmps103
  go_upto_region 2 with fail
  generalize ((w.alloc (.cells #[.int .u8 0, .int .u8 0, .int .u8 0] 23)).alloc (.cells #[.int .u8 0, .int .u8 0, .int .u8 0] 23)) = w0 at *
  go_wp2_with fail
  refine wp_loop_rounds (3 + 1) ?_
  rw [rounds_succ]
  go_wp2_with fail
  refine (num_eq 1 hR0 H1.out).mono ?_
  rintro en v1 ⟨rfl, hS1, hg1⟩
  have hvh1 := hvH.grown hg1 (by omega)
  have hvr1 := hvR.grown hg1 (by omega)
  have hGa1 := grown_trans2 hG0 hg1
  obtain ⟨d0, d1, d2⟩ := hvh1.c3
  have hf := hvh1.free
  go_upto_region 6 with fail
  clear d0 d1 d2 hf hvH hvR
  have hvH := hvh1.set 0 (.int .u8 a)
  have hvR := hvr1.other (r := w.heap.size + 1) (by omega) 0 (.int .u8 a)
  have hR1 := hS1.off' (w.heap.size + 1) 0 (.int .u8 a) (by omega)
  have hG1 := grown_set2 (o := 0) (u := .int .u8 a) hGa1 (Nat.le_succ w.heap.size)
  change Vb _ _ _ [.int .u8 a, .int .u8 0, .int .u8 0] at hvH
  generalize (v1.setCell ⟨w.heap.size + 1, 0, none⟩ (.int .u8 a)) = w1 at *
  clear hvh1 hvr1 hS1 hg1 hGa1
  go_wp2_with fail
  rw [rounds_succ]
  go_wp2_with fail
  refine (num_eq 1 hR1 H2.out).mono ?_
  rintro en v2 ⟨rfl, hS2, hg2⟩
  have hvh2 := hvH.grown hg2 (by omega)
  have hvr2 := hvR.grown hg2 (by omega)
  have hGa2 := grown_trans2 hG1 hg2
  obtain ⟨d0, d1, d2⟩ := hvh2.c3
  have hf := hvh2.free
  go_upto_region 6 with fail
  clear d0 d1 d2 hf hvH hvR
  have hvH := hvh2.set 1 (.int .u8 b)
  have hvR := hvr2.other (r := w.heap.size + 1) (by omega) 1 (.int .u8 b)
  have hR2 := hS2.off' (w.heap.size + 1) 1 (.int .u8 b) (by omega)
  have hG2 := grown_set2 (o := 1) (u := .int .u8 b) hGa2 (Nat.le_succ w.heap.size)
  change Vb _ _ _ [.int .u8 a, .int .u8 b, .int .u8 0] at hvH
  generalize (v2.setCell ⟨w.heap.size + 1, 1, none⟩ (.int .u8 b)) = w2 at *
  clear hvh2 hvr2 hS2 hg2 hGa2
  go_wp2_with fail
  rw [rounds_succ]
  go_wp2_with fail
  refine (num_eq 1 hR2 H3.out).mono ?_
  rintro en v3 ⟨rfl, hS3, hg3⟩
  have hvh3 := hvH.grown hg3 (by omega)
  have hvr3 := hvR.grown hg3 (by omega)
  have hGa3 := grown_trans2 hG2 hg3
  obtain ⟨d0, d1, d2⟩ := hvh3.c3
  have hf := hvh3.free
  go_upto_region 6 with fail
  clear d0 d1 d2 hf hvH hvR
  have hvH := hvh3.set 2 (.int .u8 c)
  have hvR := hvr3.other (r := w.heap.size + 1) (by omega) 2 (.int .u8 c)
  have hR3 := hS3.off' (w.heap.size + 1) 2 (.int .u8 c) (by omega)
  have hG3 := grown_set2 (o := 2) (u := .int .u8 c) hGa3 (Nat.le_succ w.heap.size)
  change Vb _ _ _ [.int .u8 a, .int .u8 b, .int .u8 c] at hvH
  generalize (v3.setCell ⟨w.heap.size + 1, 2, none⟩ (.int .u8 c)) = w3 at *
  clear hvh3 hvr3 hS3 hg3 hGa3
  go_wp2_with fail
  rw [rounds_succ]
  skip
  go_wp2_with (first | (refine wpList_load_vb (vs := [.int .u8 a, .int .u8 b, .int .u8 c]) rfl (.tmp 3) rfl rfl hvH rfl agg_header ?_) | (refine wpList_store_vb (vs := [.int .u8 a, .int .u8 b, .int .u8 c]) rfl (.tmp 2) (.tmp 14) rfl rfl rfl hvR rfl agg_header rfl ?_; intro w9 hv9 hg9 hz9))
  refine bodyPost_ret (results_one Try.results103 _ rfl hv9 agg_header) rfl ?_
  exact ⟨rfl, hR3.keep hg9 (fun k e => by simp at e; omega), grown_new hG3 hg9 (Nat.le_refl _)⟩
set_option maxRecDepth 100000 in
set_option maxHeartbeats 1600000 in
theorem readSet_any {w : World} {lo g : Nat} {l l1 l2 l3 : List Int} {e e1 e2 e3 a b c : Int} (hR : Rdr 100 w lo g l e) (h1 : nu 2 (l, e) = (a, (l1, e1))) (h2 : nu 2 (l1, e1) = (b, (l2, e2))) (h3 : nu 2 (l2, e2) = (c, (l3, e3))) :
    Calls Try.prog 104 #[.pointer (some ⟨g, 0, none⟩)] w (AggRdr 100 w lo g [.int .i64 a, .int .i64 b, .int .i64 c] l3 e3) := by
  have hlt := hR.lt
  obtain ⟨⟨a1, a2⟩, hy1⟩ := nu2_bd hR.by_ h1
  obtain ⟨⟨b1, b2⟩, hy2⟩ := nu2_bd hy1 h2
  obtain ⟨⟨c1, c2⟩, hy3⟩ := nu2_bd hy2 h3
  have H1 := Kp.mk h1
  have H2 := Kp.mk h2
  have H3 := Kp.mk h3
  clear h1 h2 h3 hy1 hy2 hy3
  have hG0 : w.grownBy ((w.alloc (.cells #[.int .i64 0, .int .i64 0, .int .i64 0] 69)).alloc (.cells #[.int .i64 0, .int .i64 0, .int .i64 0] 69)) (some g) := grown_of_below (below_two w _ _) _
  have hR0 := hR.below (below_two w (.cells #[.int .i64 0, .int .i64 0, .int .i64 0] 69) (.cells #[.int .i64 0, .int .i64 0, .int .i64 0] 69))
  have hvR := (Vb.new 69 w [.int .i64 0, .int .i64 0, .int .i64 0]).alloc (.cells #[.int .i64 0, .int .i64 0, .int .i64 0] 69)
  have hvH := Vb.new 69 (w.alloc (.cells #[.int .i64 0, .int .i64 0, .int .i64 0] 69)) [.int .i64 0, .int .i64 0, .int .i64 0]
  rw [alloc_size] at hvH
  have hz0 : w.heap.size < ((w.alloc (.cells #[.int .i64 0, .int .i64 0, .int .i64 0] 69)).alloc (.cells #[.int .i64 0, .int .i64 0, .int .i64 0] 69)).heap.size := by simp; omega
  go_enter Try.func104, Try.ntmps104
  go_upto_region 2 with fail
  generalize ((w.alloc (.cells #[.int .i64 0, .int .i64 0, .int .i64 0] 69)).alloc (.cells #[.int .i64 0, .int .i64 0, .int .i64 0] 69)) = w0 at *
  go_wp2_with fail
  refine wp_loop_rounds (3 + 1) ?_
  rw [rounds_succ]
  go_wp2_with fail
  refine (num_eq 2 hR0 H1.out).mono ?_
  rintro en v1 ⟨rfl, hS1, hg1⟩
  have hvh1 := hvH.grown hg1 (by omega)
  have hvr1 := hvR.grown hg1 (by omega)
  have hGa1 := grown_trans2 hG0 hg1
  obtain ⟨d0, d1, d2⟩ := hvh1.c3
  have hf := hvh1.free
  go_upto_region 6 with fail
  clear d0 d1 d2 hf hvH hvR
  have hvH := hvh1.set 0 (.int .i64 a)
  have hvR := hvr1.other (r := w.heap.size + 1) (by omega) 0 (.int .i64 a)
  have hR1 := hS1.off' (w.heap.size + 1) 0 (.int .i64 a) (by omega)
  have hG1 := grown_set2 (o := 0) (u := .int .i64 a) hGa1 (Nat.le_succ w.heap.size)
  change Vb _ _ _ [.int .i64 a, .int .i64 0, .int .i64 0] at hvH
  generalize (v1.setCell ⟨w.heap.size + 1, 0, none⟩ (.int .i64 a)) = w1 at *
  clear hvh1 hvr1 hS1 hg1 hGa1
  go_wp2_with fail
  rw [rounds_succ]
  go_wp2_with fail
  refine (num_eq 2 hR1 H2.out).mono ?_
  rintro en v2 ⟨rfl, hS2, hg2⟩
  have hvh2 := hvH.grown hg2 (by omega)
  have hvr2 := hvR.grown hg2 (by omega)
  have hGa2 := grown_trans2 hG1 hg2
  obtain ⟨d0, d1, d2⟩ := hvh2.c3
  have hf := hvh2.free
  go_upto_region 6 with fail
  clear d0 d1 d2 hf hvH hvR
  have hvH := hvh2.set 1 (.int .i64 b)
  have hvR := hvr2.other (r := w.heap.size + 1) (by omega) 1 (.int .i64 b)
  have hR2 := hS2.off' (w.heap.size + 1) 1 (.int .i64 b) (by omega)
  have hG2 := grown_set2 (o := 1) (u := .int .i64 b) hGa2 (Nat.le_succ w.heap.size)
  change Vb _ _ _ [.int .i64 a, .int .i64 b, .int .i64 0] at hvH
  generalize (v2.setCell ⟨w.heap.size + 1, 1, none⟩ (.int .i64 b)) = w2 at *
  clear hvh2 hvr2 hS2 hg2 hGa2
  go_wp2_with fail
  rw [rounds_succ]
  go_wp2_with fail
  refine (num_eq 2 hR2 H3.out).mono ?_
  rintro en v3 ⟨rfl, hS3, hg3⟩
  have hvh3 := hvH.grown hg3 (by omega)
  have hvr3 := hvR.grown hg3 (by omega)
  have hGa3 := grown_trans2 hG2 hg3
  obtain ⟨d0, d1, d2⟩ := hvh3.c3
  have hf := hvh3.free
  go_upto_region 6 with fail
  clear d0 d1 d2 hf hvH hvR
  have hvH := hvh3.set 2 (.int .i64 c)
  have hvR := hvr3.other (r := w.heap.size + 1) (by omega) 2 (.int .i64 c)
  have hR3 := hS3.off' (w.heap.size + 1) 2 (.int .i64 c) (by omega)
  have hG3 := grown_set2 (o := 2) (u := .int .i64 c) hGa3 (Nat.le_succ w.heap.size)
  change Vb _ _ _ [.int .i64 a, .int .i64 b, .int .i64 c] at hvH
  generalize (v3.setCell ⟨w.heap.size + 1, 2, none⟩ (.int .i64 c)) = w3 at *
  clear hvh3 hvr3 hS3 hg3 hGa3
  go_wp2_with fail
  rw [rounds_succ]
  skip
  go_wp2_with (first | (refine wpList_load_vb (vs := [.int .i64 a, .int .i64 b, .int .i64 c]) rfl (.tmp 3) rfl rfl hvH rfl agg_set ?_) | (refine wpList_store_vb (vs := [.int .i64 a, .int .i64 b, .int .i64 c]) rfl (.tmp 2) (.tmp 13) rfl rfl rfl hvR rfl agg_set rfl ?_; intro w9 hv9 hg9 hz9))
  refine bodyPost_ret (results_one Try.results104 _ rfl hv9 agg_set) rfl ?_
  exact ⟨rfl, hR3.keep hg9 (fun k e => by simp at e; omega), grown_new hG3 hg9 (Nat.le_refl _)⟩
set_option maxRecDepth 100000 in
set_option maxHeartbeats 1600000 in
theorem mask_parts {l l' : List Int} {e e' : Int} {x : MaskV} (hq : maskRd (l, e) = (x, (l', e'))) : ∃ m l1 e1 l2 e2 l3 e3 l4 e4 l5 e5 l6 e6 l7 e7, nu 1 (l, e) = (x.v, (l1, e1)) ∧ nu 1 (l1, e1) = (m, (l2, e2)) ∧ x.m = m - 1 ∧
    nu 1 (l2, e2) = (x.b0, (l3, e3)) ∧ nu 1 (l3, e3) = (x.b1, (l4, e4)) ∧ nu 1 (l4, e4) = (x.b2, (l5, e5)) ∧ nu 1 (l5, e5) = (x.i0, (l6, e6)) ∧ nu 1 (l6, e6) = (x.i1, (l7, e7)) ∧ nu 1 (l7, e7) = (x.i2, (l', e')) := by
  rcases h1 : nu 1 (l, e) with ⟨v, l1, e1⟩
  rcases h2 : nu 1 (l1, e1) with ⟨m, l2, e2⟩
  rcases h3 : nu 1 (l2, e2) with ⟨b0, l3, e3⟩
  rcases h4 : nu 1 (l3, e3) with ⟨b1, l4, e4⟩
  rcases h5 : nu 1 (l4, e4) with ⟨b2, l5, e5⟩
  rcases h6 : nu 1 (l5, e5) with ⟨i0, l6, e6⟩
  rcases h7 : nu 1 (l6, e6) with ⟨i1, l7, e7⟩
  rcases h8 : nu 1 (l7, e7) with ⟨i2, l8, e8⟩
  unfold maskRd at hq
  rw [bnd_eq h1, bnd_eq h2, bnd_eq h3, bnd_eq h4, bnd_eq h5, bnd_eq h6, bnd_eq h7, bnd_eq h8] at hq
  simp only [rt, Prod.mk.injEq] at hq
  obtain ⟨rfl, rfl, rfl⟩ := hq
  exact ⟨m, l1, e1, l2, e2, l3, e3, l4, e4, l5, e5, l6, e6, l7, e7, rfl, h2, rfl, h3, h4, h5, h6, h7, h8⟩
set_option maxRecDepth 100000 in
set_option maxHeartbeats 1600000 in
theorem readMatch_any {w : World} {lo g : Nat} {l l' : List Int} {e e' : Int} {x : MaskV} (hR : Rdr 100 w lo g l e) (hq : maskRd (l, e) = (x, (l', e'))) : Calls Try.prog 92 #[.pointer (some ⟨g, 0, none⟩)] w (AggRdr 100 w lo g [.int .i64 x.v, .int .i64 x.m, .int .u8 x.b0, .int .u8 x.b1, .int .u8 x.b2, .int .u8 x.i0, .int .u8 x.i1, .int .u8 x.i2] l' e') := by
  have hlt := hR.lt
  obtain ⟨m, l1, e1, l2, e2, l3, e3, l4, e4, l5, e5, l6, e6, l7, e7, h1, h2, hm, h3, h4, h5, h6, h7, h8⟩ := mask_parts hq
  obtain ⟨⟨a1, a2⟩, hy1⟩ := nu1_bd hR.by_ h1
  obtain ⟨⟨b1, b2⟩, hy2⟩ := nu1_bd hy1 h2
  have H1 := Kp.mk h1
  have H2 := Kp.mk h2
  have H3 := Kp.mk h3
  have H4 := Kp.mk h4
  have H5 := Kp.mk h5
  have H6 := Kp.mk h6
  have H7 := Kp.mk h7
  have H8 := Kp.mk h8
  have HM := Kp.mk (show m + -1 = x.m by omega)
  clear h1 h2 h3 h4 h5 h6 h7 h8 hm hq hy1 hy2
  have hG0 : w.grownBy (w.alloc (.cells #[.int .i64 0, .int .i64 0, .int .u8 0, .int .u8 0, .int .u8 0, .int .u8 0, .int .u8 0, .int .u8 0] 25)) (some g) := grown_alloc w _ g
  have hR0 := hR.below (below_alloc w (.cells #[.int .i64 0, .int .i64 0, .int .u8 0, .int .u8 0, .int .u8 0, .int .u8 0, .int .u8 0, .int .u8 0] 25))
  have hv0 := Vb.new 25 w [.int .i64 0, .int .i64 0, .int .u8 0, .int .u8 0, .int .u8 0, .int .u8 0, .int .u8 0, .int .u8 0]
  go_enter Try.func92, Try.ntmps92
  go_upto_region 1 with fail
  generalize (w.alloc (.cells #[.int .i64 0, .int .i64 0, .int .u8 0, .int .u8 0, .int .u8 0, .int .u8 0, .int .u8 0, .int .u8 0] 25)) = w0 at *
  go_wp2_with fail
  refine (num_eq 1 hR0 H1.out).mono ?_
  rintro en w1 ⟨rfl, hR1, hg1⟩
  have hv1 := hv0.grown hg1 (by omega)
  have hG1 := grown_trans2 hG0 hg1
  go_wp2_with fail
  refine (num_eq 1 hR1 H2.out).mono ?_
  rintro en w2 ⟨rfl, hR2, hg2⟩
  have hv2 := hv1.grown hg2 (by omega)
  have hG2 := grown_trans2 hG1 hg2
  go_wp2_with fail
  refine (readHeader_any hR2 H3.out H4.out H5.out).mono ?_
  rintro en w3 ⟨rfl, hR3, hg3⟩
  have hv3 := hv2.grown hg3 (by omega)
  have hG3 := grown_trans2 hG2 hg3
  go_wp2_with fail
  refine (readHeader_any hR3 H6.out H7.out H8.out).mono ?_
  rintro en w4 ⟨rfl, hR4, hg4⟩
  have hv4 := hv3.grown hg4 (by omega)
  have hG4 := grown_trans2 hG3 hg4
  try simp only [HM.out]
  go_wp2_with (refine wpList_store_vb (vs := [.int .i64 x.v, .int .i64 x.m, .int .u8 x.b0, .int .u8 x.b1, .int .u8 x.b2, .int .u8 x.i0, .int .u8 x.i1, .int .u8 x.i2]) rfl (.tmp 2) (.tmp 12) rfl rfl (by first | rfl | (simp only [HM.out]; rfl)) hv4 rfl agg_mask rfl ?_; intro w9 hv9 hg9 hz9)
  refine bodyPost_ret (results_one Try.results92 _ rfl hv9 agg_mask) rfl ?_
  exact ⟨rfl, hR4.keep hg9 (fun k e => by simp at e; omega), grown_new hG4 hg9 (Nat.le_refl _)⟩
end Go.Proofs.Ytnhjpiaenbhilaa.Oct
