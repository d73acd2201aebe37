/- Contracts of layer 6: a rule is read, the program. Contracts of layer 6: outputs and a rule are read, the program. -/
import Derived.Test.YteambkehdbffmaaGreatOrdT
namespace Go.Proofs.YteambkehdbffmaaGreat.Oct
open Go.RowKit
set_option linter.unusedVariables false
set_option linter.unusedSimpArgs false

set_option maxRecDepth 100000 in
set_option maxHeartbeats 1600000 in
theorem readHeader_any {w : World} {lo g : Nat} {l l1 l2 l3 : List Int} {e e1 e2 e3 a b c : Int} (hR : Rdr 102 w lo g l e) (h1 : nu 1 (l, e) = (a, (l1, e1))) (h2 : nu 1 (l1, e1) = (b, (l2, e2))) (h3 : nu 1 (l2, e2) = (c, (l3, e3))) :
    Calls Tryz.prog 102 #[.pointer (some ⟨g, 0, none⟩)] w (AggRdr 102 w lo g [.int .u8 a, .int .u8 b, .int .u8 c] l3 e3) := by
  have hlt := hR.lt
  obtain ⟨⟨a1, a2⟩, hy1⟩ := nu1_bd hR.by_ h1
  obtain ⟨⟨b1, b2⟩, hy2⟩ := nu1_bd hy1 h2
  obtain ⟨⟨c1, c2⟩, hy3⟩ := nu1_bd hy2 h3
  have H1 := Kp.mk h1
  have H2 := Kp.mk h2
  have H3 := Kp.mk h3
  clear h1 h2 h3 hy1 hy2 hy3
  have au : a % 256 = a := by omega
  have bu : b % 256 = b := by omega
  have cu : c % 256 = c := by omega
  have hG0 : w.grownBy ((w.alloc (.cells #[.int .u8 0, .int .u8 0, .int .u8 0] 24)).alloc (.cells #[.int .u8 0, .int .u8 0, .int .u8 0] 24)) (some g) := grown_of_below (below_two w _ _) _
  have hR0 := hR.below (below_two w (.cells #[.int .u8 0, .int .u8 0, .int .u8 0] 24) (.cells #[.int .u8 0, .int .u8 0, .int .u8 0] 24))
  have hvR := (Vb.new 24 w [.int .u8 0, .int .u8 0, .int .u8 0]).alloc (.cells #[.int .u8 0, .int .u8 0, .int .u8 0] 24)
  have hvH := Vb.new 24 (w.alloc (.cells #[.int .u8 0, .int .u8 0, .int .u8 0] 24)) [.int .u8 0, .int .u8 0, .int .u8 0]
  rw [alloc_size] at hvH
  have hz0 : w.heap.size < ((w.alloc (.cells #[.int .u8 0, .int .u8 0, .int .u8 0] 24)).alloc (.cells #[.int .u8 0, .int .u8 0, .int .u8 0] 24)).heap.size := by simp; omega
  go_enter Tryz.func102, Tryz.ntmps102
  go_upto_region 2 with fail
  generalize ((w.alloc (.cells #[.int .u8 0, .int .u8 0, .int .u8 0] 24)).alloc (.cells #[.int .u8 0, .int .u8 0, .int .u8 0] 24)) = w0 at *
  go_wp2_with fail
  refine wp_loop_rounds (3 + 1) ?_
  rw [rounds_succ]
  go_wp2_with fail
  refine (num_eq 1 hR0 H1.out).mono ?_
  rintro en v1 ⟨rfl, hS1, hg1⟩
  have hvh1 := hvH.grown hg1 (by omega)
  have hvr1 := hvR.grown hg1 (by omega)
  have hGa1 := grown_trans2 hG0 hg1
  obtain ⟨d0, d1, d2⟩ := hvh1.c3
  have hf := hvh1.free
  go_upto_region 6 with fail
  clear d0 d1 d2 hf hvH hvR
  have hvH := hvh1.set 0 (.int .u8 a)
  have hvR := hvr1.other (r := w.heap.size + 1) (by omega) 0 (.int .u8 a)
  have hR1 := hS1.off' (w.heap.size + 1) 0 (.int .u8 a) (by omega)
  have hG1 := grown_set2 (o := 0) (u := .int .u8 a) hGa1 (Nat.le_succ w.heap.size)
  change Vb _ _ _ [.int .u8 a, .int .u8 0, .int .u8 0] at hvH
  generalize (v1.setCell ⟨w.heap.size + 1, 0, none⟩ (.int .u8 a)) = w1 at *
  clear hvh1 hvr1 hS1 hg1 hGa1
  go_wp2_with fail
  rw [rounds_succ]
  go_wp2_with fail
  refine (num_eq 1 hR1 H2.out).mono ?_
  rintro en v2 ⟨rfl, hS2, hg2⟩
  have hvh2 := hvH.grown hg2 (by omega)
  have hvr2 := hvR.grown hg2 (by omega)
  have hGa2 := grown_trans2 hG1 hg2
  obtain ⟨d0, d1, d2⟩ := hvh2.c3
  have hf := hvh2.free
  go_upto_region 6 with fail
  clear d0 d1 d2 hf hvH hvR
  have hvH := hvh2.set 1 (.int .u8 b)
  have hvR := hvr2.other (r := w.heap.size + 1) (by omega) 1 (.int .u8 b)
  have hR2 := hS2.off' (w.heap.size + 1) 1 (.int .u8 b) (by omega)
  have hG2 := grown_set2 (o := 1) (u := .int .u8 b) hGa2 (Nat.le_succ w.heap.size)
  change Vb _ _ _ [.int .u8 a, .int .u8 b, .int .u8 0] at hvH
  generalize (v2.setCell ⟨w.heap.size + 1, 1, none⟩ (.int .u8 b)) = w2 at *
  clear hvh2 hvr2 hS2 hg2 hGa2
  go_wp2_with fail
  rw [rounds_succ]
  go_wp2_with fail
  refine (num_eq 1 hR2 H3.out).mono ?_
  rintro en v3 ⟨rfl, hS3, hg3⟩
  have hvh3 := hvH.grown hg3 (by omega)
  have hvr3 := hvR.grown hg3 (by omega)
  have hGa3 := grown_trans2 hG2 hg3
  obtain ⟨d0, d1, d2⟩ := hvh3.c3
  have hf := hvh3.free
  go_upto_region 6 with fail
  clear d0 d1 d2 hf hvH hvR
  have hvH := hvh3.set 2 (.int .u8 c)
  have hvR := hvr3.other (r := w.heap.size + 1) (by omega) 2 (.int .u8 c)
  have hR3 := hS3.off' (w.heap.size + 1) 2 (.int .u8 c) (by omega)
  have hG3 := grown_set2 (o := 2) (u := .int .u8 c) hGa3 (Nat.le_succ w.heap.size)
  change Vb _ _ _ [.int .u8 a, .int .u8 b, .int .u8 c] at hvH
  generalize (v3.setCell ⟨w.heap.size + 1, 2, none⟩ (.int .u8 c)) = w3 at *
  clear hvh3 hvr3 hS3 hg3 hGa3
  go_wp2_with fail
  rw [rounds_succ]
  skip
  go_wp2_with (first | (refine wpList_load_vb (vs := [.int .u8 a, .int .u8 b, .int .u8 c]) rfl (.tmp 3) rfl rfl hvH rfl agg_header ?_) | (refine wpList_store_vb (vs := [.int .u8 a, .int .u8 b, .int .u8 c]) rfl (.tmp 2) (.tmp 14) rfl rfl rfl hvR rfl agg_header rfl ?_; intro w9 hv9 hg9 hz9))
  refine bodyPost_ret (results_one Tryz.results102 _ rfl hv9 agg_header) rfl ?_
  exact ⟨rfl, hR3.keep hg9 (fun k e => by simp at e; omega), grown_new hG3 hg9 (Nat.le_refl _)⟩
set_option maxRecDepth 100000 in
set_option maxHeartbeats 1600000 in
theorem readSet_any {w : World} {lo g : Nat} {l l1 l2 l3 : List Int} {e e1 e2 e3 a b c : Int} (hR : Rdr 102 w lo g l e) (h1 : nu 2 (l, e) = (a, (l1, e1))) (h2 : nu 2 (l1, e1) = (b, (l2, e2))) (h3 : nu 2 (l2, e2) = (c, (l3, e3))) :
    Calls Tryz.prog 103 #[.pointer (some ⟨g, 0, none⟩)] w (AggRdr 102 w lo g [.int .i64 a, .int .i64 b, .int .i64 c] l3 e3) := by
  have hlt := hR.lt
  obtain ⟨⟨a1, a2⟩, hy1⟩ := nu2_bd hR.by_ h1
  obtain ⟨⟨b1, b2⟩, hy2⟩ := nu2_bd hy1 h2
  obtain ⟨⟨c1, c2⟩, hy3⟩ := nu2_bd hy2 h3
  have H1 := Kp.mk h1
  have H2 := Kp.mk h2
  have H3 := Kp.mk h3
  clear h1 h2 h3 hy1 hy2 hy3
  have hG0 : w.grownBy ((w.alloc (.cells #[.int .i64 0, .int .i64 0, .int .i64 0] 30)).alloc (.cells #[.int .i64 0, .int .i64 0, .int .i64 0] 30)) (some g) := grown_of_below (below_two w _ _) _
  have hR0 := hR.below (below_two w (.cells #[.int .i64 0, .int .i64 0, .int .i64 0] 30) (.cells #[.int .i64 0, .int .i64 0, .int .i64 0] 30))
  have hvR := (Vb.new 30 w [.int .i64 0, .int .i64 0, .int .i64 0]).alloc (.cells #[.int .i64 0, .int .i64 0, .int .i64 0] 30)
  have hvH := Vb.new 30 (w.alloc (.cells #[.int .i64 0, .int .i64 0, .int .i64 0] 30)) [.int .i64 0, .int .i64 0, .int .i64 0]
  rw [alloc_size] at hvH
  have hz0 : w.heap.size < ((w.alloc (.cells #[.int .i64 0, .int .i64 0, .int .i64 0] 30)).alloc (.cells #[.int .i64 0, .int .i64 0, .int .i64 0] 30)).heap.size := by simp; omega
  go_enter Tryz.func103, Tryz.ntmps103
  go_upto_region 2 with fail
  generalize ((w.alloc (.cells #[.int .i64 0, .int .i64 0, .int .i64 0] 30)).alloc (.cells #[.int .i64 0, .int .i64 0, .int .i64 0] 30)) = w0 at *
  go_wp2_with fail
  refine wp_loop_rounds (3 + 1) ?_
  rw [rounds_succ]
  go_wp2_with fail
  refine (num_eq 2 hR0 H1.out).mono ?_
  rintro en v1 ⟨rfl, hS1, hg1⟩
  have hvh1 := hvH.grown hg1 (by omega)
  have hvr1 := hvR.grown hg1 (by omega)
  have hGa1 := grown_trans2 hG0 hg1
  obtain ⟨d0, d1, d2⟩ := hvh1.c3
  have hf := hvh1.free
  go_upto_region 6 with fail
  clear d0 d1 d2 hf hvH hvR
  have hvH := hvh1.set 0 (.int .i64 a)
  have hvR := hvr1.other (r := w.heap.size + 1) (by omega) 0 (.int .i64 a)
  have hR1 := hS1.off' (w.heap.size + 1) 0 (.int .i64 a) (by omega)
  have hG1 := grown_set2 (o := 0) (u := .int .i64 a) hGa1 (Nat.le_succ w.heap.size)
  change Vb _ _ _ [.int .i64 a, .int .i64 0, .int .i64 0] at hvH
  generalize (v1.setCell ⟨w.heap.size + 1, 0, none⟩ (.int .i64 a)) = w1 at *
  clear hvh1 hvr1 hS1 hg1 hGa1
  go_wp2_with fail
  rw [rounds_succ]
  go_wp2_with fail
  refine (num_eq 2 hR1 H2.out).mono ?_
  rintro en v2 ⟨rfl, hS2, hg2⟩
  have hvh2 := hvH.grown hg2 (by omega)
  have hvr2 := hvR.grown hg2 (by omega)
  have hGa2 := grown_trans2 hG1 hg2
  obtain ⟨d0, d1, d2⟩ := hvh2.c3
  have hf := hvh2.free
  go_upto_region 6 with fail
  clear d0 d1 d2 hf hvH hvR
  have hvH := hvh2.set 1 (.int .i64 b)
  have hvR := hvr2.other (r := w.heap.size + 1) (by omega) 1 (.int .i64 b)
  have hR2 := hS2.off' (w.heap.size + 1) 1 (.int .i64 b) (by omega)
  have hG2 := grown_set2 (o := 1) (u := .int .i64 b) hGa2 (Nat.le_succ w.heap.size)
  change Vb _ _ _ [.int .i64 a, .int .i64 b, .int .i64 0] at hvH
  generalize (v2.setCell ⟨w.heap.size + 1, 1, none⟩ (.int .i64 b)) = w2 at *
  clear hvh2 hvr2 hS2 hg2 hGa2
  go_wp2_with fail
  rw [rounds_succ]
  go_wp2_with fail
  refine (num_eq 2 hR2 H3.out).mono ?_
  rintro en v3 ⟨rfl, hS3, hg3⟩
  have hvh3 := hvH.grown hg3 (by omega)
  have hvr3 := hvR.grown hg3 (by omega)
  have hGa3 := grown_trans2 hG2 hg3
  obtain ⟨d0, d1, d2⟩ := hvh3.c3
  have hf := hvh3.free
  go_upto_region 6 with fail
  clear d0 d1 d2 hf hvH hvR
  have hvH := hvh3.set 2 (.int .i64 c)
  have hvR := hvr3.other (r := w.heap.size + 1) (by omega) 2 (.int .i64 c)
  have hR3 := hS3.off' (w.heap.size + 1) 2 (.int .i64 c) (by omega)
  have hG3 := grown_set2 (o := 2) (u := .int .i64 c) hGa3 (Nat.le_succ w.heap.size)
  change Vb _ _ _ [.int .i64 a, .int .i64 b, .int .i64 c] at hvH
  generalize (v3.setCell ⟨w.heap.size + 1, 2, none⟩ (.int .i64 c)) = w3 at *
  clear hvh3 hvr3 hS3 hg3 hGa3
  go_wp2_with fail
  rw [rounds_succ]
  skip
  go_wp2_with (first | (refine wpList_load_vb (vs := [.int .i64 a, .int .i64 b, .int .i64 c]) rfl (.tmp 3) rfl rfl hvH rfl agg_set ?_) | (refine wpList_store_vb (vs := [.int .i64 a, .int .i64 b, .int .i64 c]) rfl (.tmp 2) (.tmp 13) rfl rfl rfl hvR rfl agg_set rfl ?_; intro w9 hv9 hg9 hz9))
  refine bodyPost_ret (results_one Tryz.results103 _ rfl hv9 agg_set) rfl ?_
  exact ⟨rfl, hR3.keep hg9 (fun k e => by simp at e; omega), grown_new hG3 hg9 (Nat.le_refl _)⟩
set_option maxRecDepth 100000 in
set_option maxHeartbeats 1600000 in
theorem mask_parts {l l' : List Int} {e e' : Int} {x : MaskV} (hq : maskRd (l, e) = (x, (l', e'))) : ∃ m l1 e1 l2 e2 l3 e3 l4 e4 l5 e5 l6 e6 l7 e7, nu 1 (l, e) = (x.v, (l1, e1)) ∧ nu 1 (l1, e1) = (m, (l2, e2)) ∧ x.m = m - 1 ∧
    nu 1 (l2, e2) = (x.b0, (l3, e3)) ∧ nu 1 (l3, e3) = (x.b1, (l4, e4)) ∧ nu 1 (l4, e4) = (x.b2, (l5, e5)) ∧ nu 1 (l5, e5) = (x.i0, (l6, e6)) ∧ nu 1 (l6, e6) = (x.i1, (l7, e7)) ∧ nu 1 (l7, e7) = (x.i2, (l', e')) := by
  rcases h1 : nu 1 (l, e) with ⟨v, l1, e1⟩
  rcases h2 : nu 1 (l1, e1) with ⟨m, l2, e2⟩
  rcases h3 : nu 1 (l2, e2) with ⟨b0, l3, e3⟩
  rcases h4 : nu 1 (l3, e3) with ⟨b1, l4, e4⟩
  rcases h5 : nu 1 (l4, e4) with ⟨b2, l5, e5⟩
  rcases h6 : nu 1 (l5, e5) with ⟨i0, l6, e6⟩
  rcases h7 : nu 1 (l6, e6) with ⟨i1, l7, e7⟩
  rcases h8 : nu 1 (l7, e7) with ⟨i2, l8, e8⟩
  unfold maskRd at hq
  rw [bnd_eq h1, bnd_eq h2, bnd_eq h3, bnd_eq h4, bnd_eq h5, bnd_eq h6, bnd_eq h7, bnd_eq h8] at hq
  simp only [rt, Prod.mk.injEq] at hq
  obtain ⟨rfl, rfl, rfl⟩ := hq
  exact ⟨m, l1, e1, l2, e2, l3, e3, l4, e4, l5, e5, l6, e6, l7, e7, rfl, h2, rfl, h3, h4, h5, h6, h7, h8⟩
set_option maxRecDepth 100000 in
set_option maxHeartbeats 1600000 in
theorem readMatch_any {w : World} {lo g : Nat} {l l' : List Int} {e e' : Int} {x : MaskV} (hR : Rdr 102 w lo g l e) (hq : maskRd (l, e) = (x, (l', e'))) : Calls Tryz.prog 91 #[.pointer (some ⟨g, 0, none⟩)] w (AggRdr 102 w lo g [.int .i64 x.v, .int .i64 x.m, .int .u8 x.b0, .int .u8 x.b1, .int .u8 x.b2, .int .u8 x.i0, .int .u8 x.i1, .int .u8 x.i2] l' e') := by
  have hlt := hR.lt
  obtain ⟨m, l1, e1, l2, e2, l3, e3, l4, e4, l5, e5, l6, e6, l7, e7, h1, h2, hm, h3, h4, h5, h6, h7, h8⟩ := mask_parts hq
  obtain ⟨⟨a1, a2⟩, hy1⟩ := nu1_bd hR.by_ h1
  obtain ⟨⟨b1, b2⟩, hy2⟩ := nu1_bd hy1 h2
  have H1 := Kp.mk h1
  have H2 := Kp.mk h2
  have H3 := Kp.mk h3
  have H4 := Kp.mk h4
  have H5 := Kp.mk h5
  have H6 := Kp.mk h6
  have H7 := Kp.mk h7
  have H8 := Kp.mk h8
  have HM := Kp.mk (show m + -1 = x.m by omega)
  clear h1 h2 h3 h4 h5 h6 h7 h8 hm hq hy1 hy2
  have hG0 : w.grownBy (w.alloc (.cells #[.int .i64 0, .int .i64 0, .int .u8 0, .int .u8 0, .int .u8 0, .int .u8 0, .int .u8 0, .int .u8 0] 26)) (some g) := grown_alloc w _ g
  have hR0 := hR.below (below_alloc w (.cells #[.int .i64 0, .int .i64 0, .int .u8 0, .int .u8 0, .int .u8 0, .int .u8 0, .int .u8 0, .int .u8 0] 26))
  have hv0 := Vb.new 26 w [.int .i64 0, .int .i64 0, .int .u8 0, .int .u8 0, .int .u8 0, .int .u8 0, .int .u8 0, .int .u8 0]
  go_enter Tryz.func91, Tryz.ntmps91
  go_upto_region 1 with fail
  generalize (w.alloc (.cells #[.int .i64 0, .int .i64 0, .int .u8 0, .int .u8 0, .int .u8 0, .int .u8 0, .int .u8 0, .int .u8 0] 26)) = w0 at *
  go_wp2_with fail
  refine (num_eq 1 hR0 H1.out).mono ?_
  rintro en w1 ⟨rfl, hR1, hg1⟩
  have hv1 := hv0.grown hg1 (by omega)
  have hG1 := grown_trans2 hG0 hg1
  go_wp2_with fail
  refine (num_eq 1 hR1 H2.out).mono ?_
  rintro en w2 ⟨rfl, hR2, hg2⟩
  have hv2 := hv1.grown hg2 (by omega)
  have hG2 := grown_trans2 hG1 hg2
  go_wp2_with fail
  refine (readHeader_any hR2 H3.out H4.out H5.out).mono ?_
  rintro en w3 ⟨rfl, hR3, hg3⟩
  have hv3 := hv2.grown hg3 (by omega)
  have hG3 := grown_trans2 hG2 hg3
  go_wp2_with fail
  refine (readHeader_any hR3 H6.out H7.out H8.out).mono ?_
  rintro en w4 ⟨rfl, hR4, hg4⟩
  have hv4 := hv3.grown hg4 (by omega)
  have hG4 := grown_trans2 hG3 hg4
  try simp only [HM.out]
  go_wp2_with (refine wpList_store_vb (vs := [.int .i64 x.v, .int .i64 x.m, .int .u8 x.b0, .int .u8 x.b1, .int .u8 x.b2, .int .u8 x.i0, .int .u8 x.i1, .int .u8 x.i2]) rfl (.tmp 2) (.tmp 12) rfl rfl (by first | rfl | (simp only [HM.out]; rfl)) hv4 rfl agg_mask rfl ?_; intro w9 hv9 hg9 hz9)
  refine bodyPost_ret (results_one Tryz.results91 _ rfl hv9 agg_mask) rfl ?_
  exact ⟨rfl, hR4.keep hg9 (fun k e => by simp at e; omega), grown_new hG4 hg9 (Nat.le_refl _)⟩
end Go.Proofs.YteambkehdbffmaaGreat.Oct

namespace Go.Proofs.YteambkehdbffmaaGreat.Oct
open Go.RowKit
set_option linter.unusedVariables false
set_option linter.unusedSimpArgs false

def noOut : OutV := ⟨0, 0, 0, 0⟩
theorem outsRd_len : ∀ (n : Nat) (t : St), (outsRd n t).1.length = n
  | 0, t => rfl
  | n + 1, t => by
    show ((outsRd n t).1 ++ [_]).length = n + 1
    rw [List.length_append, outsRd_len n t]; rfl
theorem outs_step {k : Nat} {t : St} {os : List OutV} {l0 l1 l2 l3 l4 : List Int} {e0 e1 e2 e3 e4 p a b c : Int} (h : outsRd k t = (os, (l0, e0))) (h1 : nu 1 (l0, e0) = (p, (l1, e1))) (h2 : nu 2 (l1, e1) = (a, (l2, e2))) (h3 : nu 2 (l2, e2) = (b, (l3, e3))) (h4 : nu 2 (l3, e3) = (c, (l4, e4))) :
    outsRd (k + 1) t = (os ++ [⟨p, a - 1, b - 1, c - 1⟩], (l4, e4)) := by
  show bnd (outsRd k) _ t = _
  rw [bnd_eq h]
  unfold outRd
  show bnd (bnd (nu 1) _) _ _ = _
  rw [bnd_eq (show bnd (nu 1) _ (l0, e0) = (⟨p, a - 1, b - 1, c - 1⟩, (l4, e4)) by rw [bnd_eq h1, bnd_eq h2, bnd_eq h3, bnd_eq h4]; rfl)]
  rfl
theorem cur_set (os : List OutV) (k n : Nat) (x : OutV) (hk : os.length = k) (hn : k < n) : (os ++ List.replicate (n - k) noOut).set k x = (os ++ [x]) ++ List.replicate (n - (k + 1)) noOut := by
  rw [List.set_append_right _ _ (by omega), show n - k = (n - (k + 1)) + 1 from by omega, List.replicate_succ, hk, Nat.sub_self, List.set_cons_zero, List.append_assoc]
  rfl
theorem zero_outs (n : Nat) : madeCells #[Value.int .i64 0, .int .i64 0, .int .i64 0, .int .i64 0] (n * 4) = ((List.replicate n noOut).flatMap ocs).toArray := by
  have hz : ∀ m : Nat, (List.replicate m noOut).flatMap ocs = List.replicate (m * 4) (Value.int .i64 0) := by
    intro m
    induction m with
    | zero => rfl
    | succ m ih => rw [List.replicate_succ, List.flatMap_cons, ih, Nat.succ_mul, Nat.add_comm, ← List.replicate_append_replicate]; rfl
  rw [hz]
  apply Array.ext
  · simp [size_madeCells]
  · intro i h1 h2
    have h4 : i % 4 < 4 := Nat.mod_lt _ (by omega)
    have hi : i < n * 4 := by simpa using h2
    simp only [List.getElem_toArray, List.getElem_replicate]
    simp only [madeCells, Array.getElem_ofFn]
    rcases (show i % 4 = 0 ∨ i % 4 = 1 ∨ i % 4 = 2 ∨ i % 4 = 3 by omega) with e | e | e | e <;> simp [e]
theorem info_out : (Tryz.prog.info? 32).map (fun i => (i.zero, i.size, i.bytes)) = some (some (.agg #[.int .i64 0, .int .i64 0, .int .i64 0, .int .i64 0]), 4, 32) := by kernel_rfl
def noOuts (n : Nat) : Obj := .cells ((List.replicate n noOut).flatMap ocs).toArray 32
theorem run_outs (n : Nat) (h : n ≤ 1000) (C : Int) (hC : C = n) (w : World) :
    (Instr.makeSlice 27 (.int .i64 C) (.int .i64 C)).run Tryz.prog w = .ok (.slice (some ⟨w.heap.size, 0, none⟩) n n) (w.alloc (noOuts n)) := by
  obtain ⟨i0, hi, hz0, hz1, hz2⟩ := info_parts info_out
  have hr := run_make (P := Tryz.prog) w 27 32 i0 _ Tryz.underlying27 hi hz0 .i64 .i64 C C (by omega) (by omega) (by rw [hz2]; omega) (by omega)
  rw [hr, hC, hz1, Int.toNat_natCast]
  unfold noOuts
  rw [← zero_outs]
  rfl
/-- Outputs are read. -/
def OutsRdr (w : World) (lo g : Nat) (os : List OutV) (l : List Int) (e : Int) (en : Ending) (w' : World) : Prop :=
  ∃ A n c, en = .returned (.slice A n c) ∧ Ron w' w.heap.size A n c os ∧ Rdr 102 w' lo g l e ∧ w.grownBy w' (some g)

set_option maxRecDepth 100000 in
set_option maxHeartbeats 3200000 in
theorem readOuts_any {w : World} {lo g : Nat} {l l1 l' : List Int} {e e1 e' v : Int} {os : List OutV} (hR : Rdr 102 w lo g l e) (h1 : nu 1 (l, e) = (v, (l1, e1))) (h2 : outsRd v.toNat (l1, e1) = (os, (l', e'))) : Calls Tryz.prog 92 #[.pointer (some ⟨g, 0, none⟩)] w (OutsRdr w lo g os l' e') := by
  have hlt := hR.lt
  obtain ⟨⟨a1, a2⟩, hy1⟩ := nu1_bd hR.by_ h1
  obtain ⟨n, rfl⟩ : ∃ n : Nat, v = n := ⟨v.toNat, by omega⟩
  rw [Int.toNat_natCast] at h2
  have hn : n ≤ 255 := by omega
  have H1 := Kp.mk h1
  have H2 := Kp.mk h2
  have hmk := fun w => run_outs n (by omega) n rfl w
  clear h1 h2 hy1 a1 a2
  go_enter Tryz.func92, Tryz.ntmps92
  go_wp2_with fail
  refine (num_eq 1 hR H1.out).mono ?_
  rintro en w1 ⟨rfl, hR1, hg1⟩
  have hz1 := hg1.size
  go_upto_region 2 with fail
  have hv0 : Vb 32 (w1.alloc (noOuts n)) w1.heap.size (([] ++ List.replicate (n - 0) noOut).flatMap ocs) := Vb.new 32 w1 ((List.replicate n noOut).flatMap ocs)
  have hR2 := hR1.below (below_alloc w1 (noOuts n))
  have hG2 := grown_below hg1 (below_alloc w1 (noOuts n))
  clear hmk hR1 hg1
  generalize w1.alloc (noOuts n) = w2 at *
  generalize hB : w1.heap.size = Bk at *
  clear hB
  go_wp2_with fail
  go_loopw [10] (fun i wr => ∃ (k : Nat) (ok : List OutV) (lk : List Int) (ek : Int), k ≤ n ∧ i = .int .i64 k ∧ Kp (outsRd k (l1, e1) = (ok, (lk, ek)) ∧ ok.length = k) ∧ Rdr 102 wr lo g lk ek ∧ Vb 32 wr Bk ((ok ++ List.replicate (n - k) noOut).flatMap ocs) ∧ w.grownBy wr (some g)) (fun i _ => n - (intOf i).toNat)
  case atStart => exact ⟨0, [], l1, e1, by omega, rfl, Kp.mk (And.intro rfl rfl), hR2, hv0, hG2⟩
  case round =>
    clear hR2 hv0 hG2
    obtain ⟨k, ok, lk, ek, hk, rfl, HK, hRk, hv, hG⟩ := hrel
    have hz := hG.size
    by_cases hltn : k < n
    rotate_left
    · obtain rfl : k = n := by omega
      have he := HK.out.1.symm.trans H2.out
      simp only [Prod.mk.injEq] at he
      obtain ⟨rfl, rfl, rfl⟩ := he
      rw [Nat.sub_self, List.replicate_zero, List.append_nil] at hv
      have hr := Ron.of_vb (lo := w.heap.size) hv (by omega) (by have := HK.out.2; omega)
      rw [HK.out.2] at hr
      go_wp2_with fail
      go_ret
      exact ⟨_, _, _, rfl, hr, hRk, hG⟩
    rcases hp : nu 1 (lk, ek) with ⟨p, m1, x1⟩
    rcases ha : nu 2 (m1, x1) with ⟨a, m2, x2⟩
    rcases hb : nu 2 (m2, x2) with ⟨b, m3, x3⟩
    rcases hc : nu 2 (m3, x3) with ⟨c, m4, x4⟩
    have HS := Kp.mk (outs_step HK.out.1 hp ha hb hc)
    obtain ⟨⟨p1, p2⟩, hy1⟩ := nu1_bd hRk.by_ hp
    obtain ⟨⟨q1, q2⟩, hy2⟩ := nu2_bd hy1 ha
    obtain ⟨⟨q3, q4⟩, hy3⟩ := nu2_bd hy2 hb
    obtain ⟨⟨q5, q6⟩, hy4⟩ := nu2_bd hy3 hc
    have Hp := Kp.mk hp
    have Ha := Kp.mk ha
    have Hb := Kp.mk hb
    have Hc := Kp.mk hc
    clear hp ha hb hc hy1 hy2 hy3 hy4 p1 p2
    have hcl : ((ok ++ List.replicate (n - k) noOut).flatMap ocs).length = n * 4 := by rw [flat_ocs_len, List.length_append, HK.out.2, List.length_replicate]; congr 1; omega
    have hset := Kp.mk (flat_ocs_set (ok ++ List.replicate (n - k) noOut) k ⟨p, a - 1, b - 1, c - 1⟩ (by rw [List.length_append, HK.out.2, List.length_replicate]; omega))
    have hcur := Kp.mk (cur_set ok k n ⟨p, a - 1, b - 1, c - 1⟩ HK.out.2 hltn)
    have j1 : (k : Int) < n := by omega
    generalize (ok ++ List.replicate (n - k) noOut).flatMap ocs = cs at *
    have HL := Kp.mk hcl
    clear hcl
    go_wp2_with fail
    refine (num_eq 1 hRk Hp.out).mono ?_
    rintro en v1 ⟨rfl, hR1, hg1⟩
    have hv1 := hv.grown hg1 (by omega)
    have hGa := grown_trans2 hG hg1
    obtain ⟨y0, hy0⟩ : ∃ y, cs[k * 4]? = some y := ⟨_, List.getElem?_eq_getElem (by have := HL.out; omega)⟩
    have d0 := hv1.cell (k * 4) hy0
    have hf := hv1.free
    clear hy0
    go_upto_region 6 with fail
    have hv2 := hv1.set (k * 4) (.int .i64 p)
    have hR2 := hR1.off' Bk (k * 4) (.int .i64 p) (by omega)
    have hG2 := grown_set2 (o := k * 4) (u := .int .i64 p) hGa (by omega : w.heap.size ≤ Bk)
    clear d0 hf
    first | generalize (v1.setCell ⟨Bk, 0 + k * 4, none⟩ (.int .i64 p)) = v2 at * | generalize (v1.setCell ⟨Bk, k * 4, none⟩ (.int .i64 p)) = v2 at *
    clear hv1 hR1 hg1 hGa y0
    go_wp2_with fail
    refine (readSet_any hR2 Ha.out Hb.out Hc.out).mono ?_
    rintro en v3 ⟨rfl, hR3, hg3⟩
    have hv3 := hv2.grown hg3 (by omega)
    have hG3 := grown_trans2 hG2 hg3
    go_wp2_with fail
    refine (plus_any a b c (-1) v3 (by omega) (by omega) (by omega) (by omega)).mono ?_
    rintro en v4 ⟨rfl, hb4⟩
    have hv4 := hv3.below hb4 hv3.lt
    have hR4 := hR3.below hb4
    have hG4 := grown_below hG3 hb4
    have HC : Kp ((cs.set (k * 4) (.int .i64 p)).length = n * 4) := Kp.mk (by rw [List.length_set]; exact HL.out)
    go_upto_region 7 with (refine wpList_store_at (vs := [.int .i64 (a + -1), .int .i64 (b + -1), .int .i64 (c + -1)]) rfl (.tmp 25) (.tmp 23) rfl (by first | rfl | (simp; done)) rfl hv4 (by have := HC.out; simp only [List.length_cons, List.length_nil]; omega) agg_set rfl ?_; intro v5 hv5 hg5 hz5)
    have hG5 := grown_new hG4 hg5 (by omega)
    have hR5 := hR4.keep hg5 (fun k e => by simp at e; omega)
    have hv6 : Vb 32 v5 Bk (((ok ++ [(⟨p, a - 1, b - 1, c - 1⟩ : OutV)]) ++ List.replicate (n - (k + 1)) noOut).flatMap ocs) := by rw [← hcur.out, ← hset.out]; exact hv5
    clear hv hv2 hv3 hv4 hv5 hR2 hR3 hR4 hG2 hG3 hG4 hg3 hb4 hg5 hz5 hG hRk
    go_wp2_with fail
    go_roundw
    case rel => exact ⟨k + 1, _, m4, x4, by omega, by go_num, Kp.mk (And.intro HS.out (by rw [List.length_append, HK.out.2]; rfl)), hR5, hv6, hG5⟩
    case measure => simp [intOf]; omega
/-- A rule is read. -/
def RuleRdr (T : TypeId) (w : World) (lo g : Nat) (r : RuleV) (l : List Int) (e : Int) (en : Ending) (w' : World) : Prop :=
  ∃ A n c, en = .returned (.agg #[.int .i64 r.k, .int .i64 r.pr, .int .i64 r.to, .int .i64 r.po, .int .i64 r.x.v, .int .i64 r.x.m, .int .u8 r.x.b0, .int .u8 r.x.b1, .int .u8 r.x.b2, .int .u8 r.x.i0, .int .u8 r.x.i1, .int .u8 r.x.i2, .slice A n c]) ∧ Ron w' w.heap.size A n c r.os ∧ Rdr T w' lo g l e ∧ w.grownBy w' (some g)
theorem rule_parts {l l' : List Int} {e e' : Int} {r : RuleV} (hq : ruleRd (l, e) = (r, (l', e'))) : ∃ l1 e1 l2 e2 l3 e3 l4 e4, nu 1 (l, e) = (r.k, (l1, e1)) ∧ nu 2 (l1, e1) = (r.pr, (l2, e2)) ∧ nu 1 (l2, e2) = (r.to, (l3, e3)) ∧ nu 1 (l3, e3) = (r.po, (l4, e4)) ∧
    ((r.k = 1 ∧ ∃ l5 e5 v l6 e6, maskRd (l4, e4) = (r.x, (l5, e5)) ∧ nu 1 (l5, e5) = (v, (l6, e6)) ∧ outsRd v.toNat (l6, e6) = (r.os, (l', e'))) ∨ (r.k ≠ 1 ∧ r.x = noMask ∧ r.os = [] ∧ l4 = l' ∧ e4 = e')) := by
  rcases h1 : nu 1 (l, e) with ⟨k, l1, e1⟩
  rcases h2 : nu 2 (l1, e1) with ⟨pr, l2, e2⟩
  rcases h3 : nu 1 (l2, e2) with ⟨to, l3, e3⟩
  rcases h4 : nu 1 (l3, e3) with ⟨po, l4, e4⟩
  unfold ruleRd at hq
  rw [bnd_eq h1, bnd_eq h2, bnd_eq h3, bnd_eq h4] at hq
  by_cases hk : k = 1
  · rw [if_pos hk] at hq
    rcases h5 : maskRd (l4, e4) with ⟨x, l5, e5⟩
    rcases h6 : nu 1 (l5, e5) with ⟨v, l6, e6⟩
    rcases h7 : outsRd v.toNat (l6, e6) with ⟨os, l7, e7⟩
    rw [bnd_eq h5, bnd_eq h6, bnd_eq h7] at hq
    simp only [rt, Prod.mk.injEq] at hq
    obtain ⟨rfl, rfl, rfl⟩ := hq
    exact ⟨l1, e1, l2, e2, l3, e3, l4, e4, rfl, h2, h3, h4, .inl ⟨hk, l5, e5, v, l6, e6, h5, h6, h7⟩⟩
  · rw [if_neg hk] at hq
    simp only [rt, Prod.mk.injEq] at hq
    obtain ⟨rfl, rfl, rfl⟩ := hq
    exact ⟨l1, e1, l2, e2, l3, e3, l4, e4, rfl, h2, h3, h4, .inr ⟨hk, rfl, rfl, rfl, rfl⟩⟩
set_option maxRecDepth 100000 in
set_option maxHeartbeats 3200000 in
theorem readRule_any {w : World} {lo g : Nat} {l l' : List Int} {e e' : Int} {r : RuleV} (hR : Rdr 102 w lo g l e) (hq : ruleRd (l, e) = (r, (l', e'))) : Calls Tryz.prog 78 #[.pointer (some ⟨g, 0, none⟩)] w (RuleRdr 102 w lo g r l' e') := by
  have hlt := hR.lt
  obtain ⟨l1, e1, l2, e2, l3, e3, l4, e4, h1, h2, h3, h4, hd⟩ := rule_parts hq
  have H1 := Kp.mk h1
  have H2 := Kp.mk h2
  have H3 := Kp.mk h3
  have H4 := Kp.mk h4
  clear h1 h2 h3 h4 hq
  rcases hd with ⟨hk, l5, e5, v, l6, e6, h5, h6, h7⟩ | ⟨hk, hx, ho, rfl, rfl⟩
  · have k1 : (r.k == 1) = true := by rw [hk]; rfl
    have H5 := Kp.mk h5
    have H6 := Kp.mk h6
    have H7 := Kp.mk h7
    clear hk h5 h6 h7
    have hz0 : w.heap.size < (w.alloc (.cells #[.int .i64 0, .int .i64 0, .int .i64 0, .int .i64 0, .int .i64 0, .int .i64 0, .int .u8 0, .int .u8 0, .int .u8 0, .int .u8 0, .int .u8 0, .int .u8 0, .slice none 0 0] 29)).heap.size := by simp
    have hG0 : w.grownBy (w.alloc (.cells #[.int .i64 0, .int .i64 0, .int .i64 0, .int .i64 0, .int .i64 0, .int .i64 0, .int .u8 0, .int .u8 0, .int .u8 0, .int .u8 0, .int .u8 0, .int .u8 0, .slice none 0 0] 29)) (some g) := grown_alloc w _ g
    have hR0 := hR.below (below_alloc w (.cells #[.int .i64 0, .int .i64 0, .int .i64 0, .int .i64 0, .int .i64 0, .int .i64 0, .int .u8 0, .int .u8 0, .int .u8 0, .int .u8 0, .int .u8 0, .int .u8 0, .slice none 0 0] 29))
    have hv0 := Vb.new 29 w [.int .i64 0, .int .i64 0, .int .i64 0, .int .i64 0, .int .i64 0, .int .i64 0, .int .u8 0, .int .u8 0, .int .u8 0, .int .u8 0, .int .u8 0, .int .u8 0, .slice none 0 0]
    go_enter Tryz.func78, Tryz.ntmps78
    go_upto_region 1 with fail
    generalize (w.alloc (.cells #[.int .i64 0, .int .i64 0, .int .i64 0, .int .i64 0, .int .i64 0, .int .i64 0, .int .u8 0, .int .u8 0, .int .u8 0, .int .u8 0, .int .u8 0, .int .u8 0, .slice none 0 0] 29)) = w0 at *
    go_wp2_with fail
    refine (num_eq 1 hR0 H1.out).mono ?_
    rintro en w1 ⟨rfl, hR1, hg1⟩
    have hv1 := hv0.grown hg1 (by omega)
    have hG1 := grown_trans2 hG0 hg1
    have hz1 := hg1.size
    clear hv0 hR0 hG0 hg1
    go_wp2_with fail
    refine (num_eq 2 hR1 H2.out).mono ?_
    rintro en w2 ⟨rfl, hR2, hg2⟩
    have hv2 := hv1.grown hg2 (by omega)
    have hG2 := grown_trans2 hG1 hg2
    have hz2 := hg2.size
    clear hv1 hR1 hG1 hg2
    go_wp2_with fail
    refine (num_eq 1 hR2 H3.out).mono ?_
    rintro en w3 ⟨rfl, hR3, hg3⟩
    have hv3 := hv2.grown hg3 (by omega)
    have hG3 := grown_trans2 hG2 hg3
    have hz3 := hg3.size
    clear hv2 hR2 hG2 hg3
    go_wp2_with fail
    refine (num_eq 1 hR3 H4.out).mono ?_
    rintro en w4 ⟨rfl, hR4, hg4⟩
    have hv4 := hv3.grown hg4 (by omega)
    have hG4 := grown_trans2 hG3 hg4
    have hz4 := hg4.size
    clear hv3 hR3 hG3 hg4
    have hzw : w.heap.size < w4.heap.size := by omega
    go_upto_region 2 with (refine wpList_store_new (vs := [.int .i64 r.k, .int .i64 r.pr, .int .i64 r.to, .int .i64 r.po, .int .i64 0, .int .i64 0, .int .u8 0, .int .u8 0, .int .u8 0, .int .u8 0, .int .u8 0, .int .u8 0, .slice none 0 0]) rfl (.tmp 3) (.tmp 12) rfl rfl rfl rfl rfl rfl agg_rule rfl ?_; intro w5 hD5 hb5 hz5)
    have hv5 := hv4.below hb5 hv4.lt
    have hR5 := hR4.below hb5
    have hG5 := grown_below hG4 hb5
    have hz5' : w4.heap.size < w5.heap.size := by omega
    generalize w4.heap.size = Dk at *
    clear hv4 hR4 hG4 hb5 hz5
    obtain ⟨d0, d1, d2, d3, d4, d5, d6, d7, d8, d9, d10, d11, d12⟩ := hD5.c13
    go_wp2_with fail
    refine (readMatch_any hR5 H5.out).mono ?_
    rintro en w6 ⟨rfl, hR6, hg6⟩
    have hz6 := hg6.size
    have hD6 := hD5.grown hg6 (by omega)
    have hv6 := hv5.grown hg6 (by omega)
    have hG6 := grown_trans2 hG5 hg6
    clear d0 d1 d2 d3 d4 d5 d6 d7 d8 d9 d10 d11 d12 hD5 hv5 hG5 hg6
    go_upto_region 4 with (refine wpList_store_at (vs := [.int .i64 r.x.v, .int .i64 r.x.m, .int .u8 r.x.b0, .int .u8 r.x.b1, .int .u8 r.x.b2, .int .u8 r.x.i0, .int .u8 r.x.i1, .int .u8 r.x.i2]) rfl (.tmp 18) (.tmp 17) rfl rfl rfl hD6 (by simp) agg_mask rfl ?_; intro w7 hD7 hg7 hz7)
    change Vb _ _ _ [.int .i64 r.k, .int .i64 r.pr, .int .i64 r.to, .int .i64 r.po, .int .i64 r.x.v, .int .i64 r.x.m, .int .u8 r.x.b0, .int .u8 r.x.b1, .int .u8 r.x.b2, .int .u8 r.x.i0, .int .u8 r.x.i1, .int .u8 r.x.i2, .slice none 0 0] at hD7
    have hv7 := hv6.grown hg7 (by omega)
    have hR7 := hR6.keep hg7 (fun k e => by simp at e; omega)
    have hG7 := grown_new hG6 hg7 (by omega)
    have hz7' : w5.heap.size ≤ w7.heap.size := by omega
    clear hD6 hv6 hR6 hG6 hg7 hz7
    go_wp2_with fail
    refine (readOuts_any hR7 H6.out H7.out).mono ?_
    rintro en w8 ⟨A, n, c, rfl, hr8, hR8, hg8⟩
    have hz8 := hg8.size
    have hD8 := hD7.grown hg8 (by omega)
    have hv8 := hv7.grown hg8 (by omega)
    have hG8 := grown_trans2 hG7 hg8
    have d12 := hD8.cell 12 rfl
    have hf := hD8.free
    go_upto_region 5 with fail
    have hDx := hD8.set 12 (.slice A n c)
    have hvx := hv8.other (r := Dk) (by omega) 12 (.slice A n c)
    have hRx := hR8.off' Dk 12 (.slice A n c) (by omega)
    have hGx := grown_set2 (o := 12) (u := .slice A n c) hG8 (by omega : w.heap.size ≤ Dk)
    have hrx := hr8.grown (grownBy_set w8 Dk 12 (.slice A n c)) (by omega)
    clear d12 hf
    change Vb _ _ _ [.int .i64 r.k, .int .i64 r.pr, .int .i64 r.to, .int .i64 r.po, .int .i64 r.x.v, .int .i64 r.x.m, .int .u8 r.x.b0, .int .u8 r.x.b1, .int .u8 r.x.b2, .int .u8 r.x.i0, .int .u8 r.x.i1, .int .u8 r.x.i2, .slice A n c] at hDx
    generalize (w8.setCell ⟨Dk, 12, none⟩ (.slice A n c)) = wx at *
    clear hD8 hv8 hR8 hG8 hr8 hg8 hD7 hv7 hR7 hG7
    skip
    go_wp2_with (first | (refine wpList_load_vb (vs := [.int .i64 r.k, .int .i64 r.pr, .int .i64 r.to, .int .i64 r.po, .int .i64 r.x.v, .int .i64 r.x.m, .int .u8 r.x.b0, .int .u8 r.x.b1, .int .u8 r.x.b2, .int .u8 r.x.i0, .int .u8 r.x.i1, .int .u8 r.x.i2, .slice A n c]) rfl (.tmp 3) rfl rfl hDx rfl agg_rule ?_) | (refine wpList_store_vb (vs := [.int .i64 r.k, .int .i64 r.pr, .int .i64 r.to, .int .i64 r.po, .int .i64 r.x.v, .int .i64 r.x.m, .int .u8 r.x.b0, .int .u8 r.x.b1, .int .u8 r.x.b2, .int .u8 r.x.i0, .int .u8 r.x.i1, .int .u8 r.x.i2, .slice A n c]) rfl (.tmp 2) (.tmp 22) rfl rfl rfl hvx rfl agg_rule rfl ?_; intro w9 hv9 hg9 hz9))
    refine bodyPost_ret (results_one Tryz.results78 _ rfl hv9 agg_rule) rfl ?_
    exact ⟨A, n, c, rfl, (hrx.grown hg9 (by omega)).lower (by omega), hRx.keep hg9 (fun k e => by simp at e; omega), grown_new hGx hg9 (Nat.le_refl _)⟩
  · have k1 : (r.k == 1) = false := beq_eq_false_iff_ne.2 hk
    have HX := Kp.mk hx
    have HO := Kp.mk ho
    clear hk hx ho
    have hz0 : w.heap.size < (w.alloc (.cells #[.int .i64 0, .int .i64 0, .int .i64 0, .int .i64 0, .int .i64 0, .int .i64 0, .int .u8 0, .int .u8 0, .int .u8 0, .int .u8 0, .int .u8 0, .int .u8 0, .slice none 0 0] 29)).heap.size := by simp
    have hG0 : w.grownBy (w.alloc (.cells #[.int .i64 0, .int .i64 0, .int .i64 0, .int .i64 0, .int .i64 0, .int .i64 0, .int .u8 0, .int .u8 0, .int .u8 0, .int .u8 0, .int .u8 0, .int .u8 0, .slice none 0 0] 29)) (some g) := grown_alloc w _ g
    have hR0 := hR.below (below_alloc w (.cells #[.int .i64 0, .int .i64 0, .int .i64 0, .int .i64 0, .int .i64 0, .int .i64 0, .int .u8 0, .int .u8 0, .int .u8 0, .int .u8 0, .int .u8 0, .int .u8 0, .slice none 0 0] 29))
    have hv0 := Vb.new 29 w [.int .i64 0, .int .i64 0, .int .i64 0, .int .i64 0, .int .i64 0, .int .i64 0, .int .u8 0, .int .u8 0, .int .u8 0, .int .u8 0, .int .u8 0, .int .u8 0, .slice none 0 0]
    go_enter Tryz.func78, Tryz.ntmps78
    go_upto_region 1 with fail
    generalize (w.alloc (.cells #[.int .i64 0, .int .i64 0, .int .i64 0, .int .i64 0, .int .i64 0, .int .i64 0, .int .u8 0, .int .u8 0, .int .u8 0, .int .u8 0, .int .u8 0, .int .u8 0, .slice none 0 0] 29)) = w0 at *
    go_wp2_with fail
    refine (num_eq 1 hR0 H1.out).mono ?_
    rintro en w1 ⟨rfl, hR1, hg1⟩
    have hv1 := hv0.grown hg1 (by omega)
    have hG1 := grown_trans2 hG0 hg1
    have hz1 := hg1.size
    clear hv0 hR0 hG0 hg1
    go_wp2_with fail
    refine (num_eq 2 hR1 H2.out).mono ?_
    rintro en w2 ⟨rfl, hR2, hg2⟩
    have hv2 := hv1.grown hg2 (by omega)
    have hG2 := grown_trans2 hG1 hg2
    have hz2 := hg2.size
    clear hv1 hR1 hG1 hg2
    go_wp2_with fail
    refine (num_eq 1 hR2 H3.out).mono ?_
    rintro en w3 ⟨rfl, hR3, hg3⟩
    have hv3 := hv2.grown hg3 (by omega)
    have hG3 := grown_trans2 hG2 hg3
    have hz3 := hg3.size
    clear hv2 hR2 hG2 hg3
    go_wp2_with fail
    refine (num_eq 1 hR3 H4.out).mono ?_
    rintro en w4 ⟨rfl, hR4, hg4⟩
    have hv4 := hv3.grown hg4 (by omega)
    have hG4 := grown_trans2 hG3 hg4
    have hz4 := hg4.size
    clear hv3 hR3 hG3 hg4
    have hzw : w.heap.size < w4.heap.size := by omega
    go_upto_region 2 with (refine wpList_store_new (vs := [.int .i64 r.k, .int .i64 r.pr, .int .i64 r.to, .int .i64 r.po, .int .i64 0, .int .i64 0, .int .u8 0, .int .u8 0, .int .u8 0, .int .u8 0, .int .u8 0, .int .u8 0, .slice none 0 0]) rfl (.tmp 3) (.tmp 12) rfl rfl rfl rfl rfl rfl agg_rule rfl ?_; intro w5 hD5 hb5 hz5)
    have hv5 := hv4.below hb5 hv4.lt
    have hR5 := hR4.below hb5
    have hG5 := grown_below hG4 hb5
    have hz5' : w4.heap.size < w5.heap.size := by omega
    generalize w4.heap.size = Dk at *
    clear hv4 hR4 hG4 hb5 hz5
    obtain ⟨d0, d1, d2, d3, d4, d5, d6, d7, d8, d9, d10, d11, d12⟩ := hD5.c13
    skip
    go_wp2_with (first | (refine wpList_load_vb (vs := [.int .i64 r.k, .int .i64 r.pr, .int .i64 r.to, .int .i64 r.po, .int .i64 0, .int .i64 0, .int .u8 0, .int .u8 0, .int .u8 0, .int .u8 0, .int .u8 0, .int .u8 0, .slice none 0 0]) rfl (.tmp 3) rfl rfl hD5 rfl agg_rule ?_) | (refine wpList_store_vb (vs := [.int .i64 r.k, .int .i64 r.pr, .int .i64 r.to, .int .i64 r.po, .int .i64 0, .int .i64 0, .int .u8 0, .int .u8 0, .int .u8 0, .int .u8 0, .int .u8 0, .int .u8 0, .slice none 0 0]) rfl (.tmp 2) (.tmp 22) rfl rfl rfl hv5 rfl agg_rule rfl ?_; intro w9 hv9 hg9 hz9))
    refine bodyPost_ret (results_one Tryz.results78 _ rfl hv9 agg_rule) rfl ?_
    refine ⟨none, 0, 0, by rw [HX.out]; rfl, by rw [HO.out]; exact Ron.nil _ _, hR5.keep hg9 (fun k e => by simp at e; omega), grown_new hG5 hg9 (Nat.le_refl _)⟩
end Go.Proofs.YteambkehdbffmaaGreat.Oct
