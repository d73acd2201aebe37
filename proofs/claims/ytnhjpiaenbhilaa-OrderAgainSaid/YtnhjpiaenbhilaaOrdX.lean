/- Contracts of layer 6: Parse, the document's. -/
import Derived.Test.YtnhjpiaenbhilaaOrdU
namespace Go.Proofs.Ytnhjpiaenbhilaa.Oct
open Go.RowKit
set_option linter.unusedVariables false
set_option linter.unusedSimpArgs false

set_option maxRecDepth 100000 in
set_option maxHeartbeats 3200000 in
theorem rps_err {w : World} {B n c : Nat} {A : Option Addr} {l l1 l' : List Int} {v e1 e' : Int} {o : OrdV} (hr : Rd .u8 w B A n c l) (hl : By l) (hB : B ≤ w.heap.size) (hn : n ≤ 140737488355328) (h1 : nu 1 (l, 0) = (v, (l1, e1))) (h2 : restRd v (l1, e1) = (o, (l', e'))) (hh : e' ≠ 0) : Calls Try.prog 21 #[.slice A n c] w (OrdRet noOrd e' w) := by
  have H1 := Kp.mk h1
  have H2 := Kp.mk h2
  clear h1 h2
  have HH := Kp.mk hh
  clear hh
  have hbz := below_alloc w (.cells #[.int .i64 0, .int .i64 0, .int .i64 0, .int .i64 0, .int .i64 0, .int .i64 0, .int .i64 0, .int .i64 0, .int .i64 0, .int .u8 0, .int .u8 0, .int .u8 0, .int .u8 0, .int .u8 0, .int .u8 0, .slice none 0 0, .int .i64 0, .int .i64 0, .int .i64 0, .int .i64 0, .int .i64 0] 32)
  have hvz : Vb 32 (w.alloc (.cells #[.int .i64 0, .int .i64 0, .int .i64 0, .int .i64 0, .int .i64 0, .int .i64 0, .int .i64 0, .int .i64 0, .int .i64 0, .int .u8 0, .int .u8 0, .int .u8 0, .int .u8 0, .int .u8 0, .int .u8 0, .slice none 0 0, .int .i64 0, .int .i64 0, .int .i64 0, .int .i64 0, .int .i64 0] 32)) w.heap.size (ocl noOrd (.slice none 0 0)) := Vb.new 32 w (ocl noOrd (.slice none 0 0))
  have hrz := hr.below' hbz hB
  have hzz : w.heap.size < (w.alloc (.cells #[.int .i64 0, .int .i64 0, .int .i64 0, .int .i64 0, .int .i64 0, .int .i64 0, .int .i64 0, .int .i64 0, .int .i64 0, .int .u8 0, .int .u8 0, .int .u8 0, .int .u8 0, .int .u8 0, .int .u8 0, .slice none 0 0, .int .i64 0, .int .i64 0, .int .i64 0, .int .i64 0, .int .i64 0] 32)).heap.size := by simp
  go_enter Try.func21, Try.ntmps21
  go_upto_region 1 with fail
  generalize w.alloc (.cells #[.int .i64 0, .int .i64 0, .int .i64 0, .int .i64 0, .int .i64 0, .int .i64 0, .int .i64 0, .int .i64 0, .int .i64 0, .int .u8 0, .int .u8 0, .int .u8 0, .int .u8 0, .int .u8 0, .int .u8 0, .slice none 0 0, .int .i64 0, .int .i64 0, .int .i64 0, .int .i64 0, .int .i64 0] 32) = w0 at *
  go_wp2_with fail
  refine (refRead_any hrz hl (by omega) hn).mono ?_
  rintro en w1 ⟨g, rfl, hR1, hb1⟩
  have hlo : w0.heap.size ≤ g := by obtain ⟨_, _, _, _, hlo, _⟩ := hR1; exact hlo
  have hv1 := hvz.below hb1 (by omega)
  have hgl := hR1.lt
  have hT1 := hbz.trans (hb1.mono (by omega))
  have hz1 := hb1.size
  clear hvz hrz hb1 hbz
  go_wp2_with fail
  refine (take_any hR1 H1.out H2.out).mono ?_
  rintro en w2 ⟨o2, fine, S, n6, c6, hfo, rfl, hr2, hR2, hg2⟩
  have hv2 := hv1.grown hg2 (by omega)
  have hz2 := hg2.size
  have hT2 := below_grown (B := w.heap.size) hT1 hg2 (by omega) (by omega)
  replace hr2 := hr2.lower (lo' := w.heap.size + 1) (by omega)
  clear hv1 hR1 hg2 hT1
  have hne : (e' != 0) = true := by rw [bne, beq_eq_false_iff_ne.2 HH.out]; rfl
  clear hfo
  go_upto_region 3 with (refine wpList_store_new (vs := ocl o2 (.slice S n6 c6)) rfl (.tmp 5) (.tmp 12) rfl rfl rfl rfl rfl rfl agg_order rfl ?_; intro w3 hx3 hb3 hz3)
  have hv3 := hv2.below hb3 (by omega)
  have hR3 := hR2.below hb3
  have hr3 := hr2.below hb3
  have hT3 := hT2.trans (hb3.mono (by omega))
  have hz3' : w2.heap.size < w3.heap.size := by omega
  clear hz3 hv2 hR2 hb3 hT2 hr2
  go_wp2_with fail
  refine (refErr_any hR3).mono ?_
  rintro en wq ⟨rfl, rfl⟩
  go_wp2_with fail
  refine (refErr_any hR3).mono ?_
  rintro en wq ⟨rfl, rfl⟩
  go_wp2_with (refine wpList_store_vb (vs := (ocl noOrd (.slice none 0 0))) rfl (.tmp 2) (.tmp 17) rfl rfl rfl hv3 rfl agg_order rfl ?_; intro w9 hv9 hg9 hz9)
  refine bodyPost_ret (results_pair Try.results21 _ rfl hv9 agg_order) rfl ?_
  exact ⟨none, 0, 0, rfl, Ron.nil _ _, (hT3.grown hg9 (by omega) (fun k e => by simp at e; omega))⟩
set_option maxRecDepth 100000 in
set_option maxHeartbeats 3200000 in
theorem rps_end {w : World} {B n c : Nat} {A : Option Addr} {l l1 l' : List Int} {v e1 e' : Int} {o : OrdV} (hr : Rd .u8 w B A n c l) (hl : By l) (hB : B ≤ w.heap.size) (hn : n ≤ 140737488355328) (h1 : nu 1 (l, 0) = (v, (l1, e1))) (h2 : restRd v (l1, e1) = (o, (l', e'))) (hh : e' = 0 ∧ 0 < l'.length) : Calls Try.prog 21 #[.slice A n c] w (OrdRet noOrd 4 w) := by
  have H1 := Kp.mk h1
  have H2 := Kp.mk h2
  clear h1 h2
  have HH := Kp.mk hh
  clear hh
  have hbz := below_alloc w (.cells #[.int .i64 0, .int .i64 0, .int .i64 0, .int .i64 0, .int .i64 0, .int .i64 0, .int .i64 0, .int .i64 0, .int .i64 0, .int .u8 0, .int .u8 0, .int .u8 0, .int .u8 0, .int .u8 0, .int .u8 0, .slice none 0 0, .int .i64 0, .int .i64 0, .int .i64 0, .int .i64 0, .int .i64 0] 32)
  have hvz : Vb 32 (w.alloc (.cells #[.int .i64 0, .int .i64 0, .int .i64 0, .int .i64 0, .int .i64 0, .int .i64 0, .int .i64 0, .int .i64 0, .int .i64 0, .int .u8 0, .int .u8 0, .int .u8 0, .int .u8 0, .int .u8 0, .int .u8 0, .slice none 0 0, .int .i64 0, .int .i64 0, .int .i64 0, .int .i64 0, .int .i64 0] 32)) w.heap.size (ocl noOrd (.slice none 0 0)) := Vb.new 32 w (ocl noOrd (.slice none 0 0))
  have hrz := hr.below' hbz hB
  have hzz : w.heap.size < (w.alloc (.cells #[.int .i64 0, .int .i64 0, .int .i64 0, .int .i64 0, .int .i64 0, .int .i64 0, .int .i64 0, .int .i64 0, .int .i64 0, .int .u8 0, .int .u8 0, .int .u8 0, .int .u8 0, .int .u8 0, .int .u8 0, .slice none 0 0, .int .i64 0, .int .i64 0, .int .i64 0, .int .i64 0, .int .i64 0] 32)).heap.size := by simp
  go_enter Try.func21, Try.ntmps21
  go_upto_region 1 with fail
  generalize w.alloc (.cells #[.int .i64 0, .int .i64 0, .int .i64 0, .int .i64 0, .int .i64 0, .int .i64 0, .int .i64 0, .int .i64 0, .int .i64 0, .int .u8 0, .int .u8 0, .int .u8 0, .int .u8 0, .int .u8 0, .int .u8 0, .slice none 0 0, .int .i64 0, .int .i64 0, .int .i64 0, .int .i64 0, .int .i64 0] 32) = w0 at *
  go_wp2_with fail
  refine (refRead_any hrz hl (by omega) hn).mono ?_
  rintro en w1 ⟨g, rfl, hR1, hb1⟩
  have hlo : w0.heap.size ≤ g := by obtain ⟨_, _, _, _, hlo, _⟩ := hR1; exact hlo
  have hv1 := hvz.below hb1 (by omega)
  have hgl := hR1.lt
  have hT1 := hbz.trans (hb1.mono (by omega))
  have hz1 := hb1.size
  clear hvz hrz hb1 hbz
  go_wp2_with fail
  refine (take_any hR1 H1.out H2.out).mono ?_
  rintro en w2 ⟨o2, fine, S, n6, c6, hfo, rfl, hr2, hR2, hg2⟩
  have hv2 := hv1.grown hg2 (by omega)
  have hz2 := hg2.size
  have hT2 := below_grown (B := w.heap.size) hT1 hg2 (by omega) (by omega)
  replace hr2 := hr2.lower (lo' := w.heap.size + 1) (by omega)
  clear hv1 hR1 hg2 hT1
  obtain ⟨hz, hk⟩ := HH.out
  have hne : (e' != 0) = false := by rw [hz]; rfl
  obtain ⟨rfl, hff⟩ := hfo hz
  have HF := Kp.mk hff
  clear hfo hff
  have HZ := Kp.mk hz
  have HK := Kp.mk hk
  clear hz hk HH
  go_upto_region 3 with (refine wpList_store_new (vs := ocl o2 (.slice S n6 c6)) rfl (.tmp 5) (.tmp 12) rfl rfl rfl rfl rfl rfl agg_order rfl ?_; intro w3 hx3 hb3 hz3)
  have hv3 := hv2.below hb3 (by omega)
  have hR3 := hR2.below hb3
  have hr3 := hr2.below hb3
  have hT3 := hT2.trans (hb3.mono (by omega))
  have hz3' : w2.heap.size < w3.heap.size := by omega
  clear hz3 hv2 hR2 hb3 hT2 hr2
  go_wp2_with fail
  refine (refErr_any hR3).mono ?_
  rintro en wq ⟨rfl, rfl⟩
  cases fine
  · go_wp2_with (refine wpList_store_vb (vs := (ocl noOrd (.slice none 0 0))) rfl (.tmp 2) (.tmp 32) rfl rfl rfl hv3 rfl agg_order rfl ?_; intro w9 hv9 hg9 hz9)
    refine bodyPost_ret (results_pair Try.results21 _ rfl hv9 agg_order) rfl ?_
    exact ⟨none, 0, 0, rfl, Ron.nil _ _, (hT3.grown hg9 (by omega) (fun k e => by simp at e; omega))⟩
  · go_wp2_with fail
    refine (refEnd_any hR3).mono ?_
    rintro en wq ⟨rfl, rfl⟩
    rw [show endR l' e' = 4 by unfold endR; rw [if_pos HK.out]]
    go_wp2_with (refine wpList_store_vb (vs := (ocl noOrd (.slice none 0 0))) rfl (.tmp 2) (.tmp 32) rfl rfl rfl hv3 rfl agg_order rfl ?_; intro w9 hv9 hg9 hz9)
    refine bodyPost_ret (results_pair Try.results21 _ rfl hv9 agg_order) rfl ?_
    exact ⟨none, 0, 0, rfl, Ron.nil _ _, (hT3.grown hg9 (by omega) (fun k e => by simp at e; omega))⟩
set_option maxRecDepth 100000 in
set_option maxHeartbeats 3200000 in
theorem rps_chk {w : World} {B n c : Nat} {A : Option Addr} {l l1 l' : List Int} {v e1 e' : Int} {o : OrdV} (hr : Rd .u8 w B A n c l) (hl : By l) (hB : B ≤ w.heap.size) (hn : n ≤ 140737488355328) (h1 : nu 1 (l, 0) = (v, (l1, e1))) (h2 : restRd v (l1, e1) = (o, (l', e'))) (hh : e' = 0 ∧ (¬ 0 < l'.length ∧ checkO o = 2)) : Calls Try.prog 21 #[.slice A n c] w (OrdRet noOrd 4 w) := by
  have H1 := Kp.mk h1
  have H2 := Kp.mk h2
  clear h1 h2
  have HH := Kp.mk hh
  clear hh
  have hbz := below_alloc w (.cells #[.int .i64 0, .int .i64 0, .int .i64 0, .int .i64 0, .int .i64 0, .int .i64 0, .int .i64 0, .int .i64 0, .int .i64 0, .int .u8 0, .int .u8 0, .int .u8 0, .int .u8 0, .int .u8 0, .int .u8 0, .slice none 0 0, .int .i64 0, .int .i64 0, .int .i64 0, .int .i64 0, .int .i64 0] 32)
  have hvz : Vb 32 (w.alloc (.cells #[.int .i64 0, .int .i64 0, .int .i64 0, .int .i64 0, .int .i64 0, .int .i64 0, .int .i64 0, .int .i64 0, .int .i64 0, .int .u8 0, .int .u8 0, .int .u8 0, .int .u8 0, .int .u8 0, .int .u8 0, .slice none 0 0, .int .i64 0, .int .i64 0, .int .i64 0, .int .i64 0, .int .i64 0] 32)) w.heap.size (ocl noOrd (.slice none 0 0)) := Vb.new 32 w (ocl noOrd (.slice none 0 0))
  have hrz := hr.below' hbz hB
  have hzz : w.heap.size < (w.alloc (.cells #[.int .i64 0, .int .i64 0, .int .i64 0, .int .i64 0, .int .i64 0, .int .i64 0, .int .i64 0, .int .i64 0, .int .i64 0, .int .u8 0, .int .u8 0, .int .u8 0, .int .u8 0, .int .u8 0, .int .u8 0, .slice none 0 0, .int .i64 0, .int .i64 0, .int .i64 0, .int .i64 0, .int .i64 0] 32)).heap.size := by simp
  go_enter Try.func21, Try.ntmps21
  go_upto_region 1 with fail
  generalize w.alloc (.cells #[.int .i64 0, .int .i64 0, .int .i64 0, .int .i64 0, .int .i64 0, .int .i64 0, .int .i64 0, .int .i64 0, .int .i64 0, .int .u8 0, .int .u8 0, .int .u8 0, .int .u8 0, .int .u8 0, .int .u8 0, .slice none 0 0, .int .i64 0, .int .i64 0, .int .i64 0, .int .i64 0, .int .i64 0] 32) = w0 at *
  go_wp2_with fail
  refine (refRead_any hrz hl (by omega) hn).mono ?_
  rintro en w1 ⟨g, rfl, hR1, hb1⟩
  have hlo : w0.heap.size ≤ g := by obtain ⟨_, _, _, _, hlo, _⟩ := hR1; exact hlo
  have hv1 := hvz.below hb1 (by omega)
  have hgl := hR1.lt
  have hT1 := hbz.trans (hb1.mono (by omega))
  have hz1 := hb1.size
  clear hvz hrz hb1 hbz
  go_wp2_with fail
  refine (take_any hR1 H1.out H2.out).mono ?_
  rintro en w2 ⟨o2, fine, S, n6, c6, hfo, rfl, hr2, hR2, hg2⟩
  have hv2 := hv1.grown hg2 (by omega)
  have hz2 := hg2.size
  have hT2 := below_grown (B := w.heap.size) hT1 hg2 (by omega) (by omega)
  replace hr2 := hr2.lower (lo' := w.heap.size + 1) (by omega)
  clear hv1 hR1 hg2 hT1
  obtain ⟨hz, hk⟩ := HH.out
  have hne : (e' != 0) = false := by rw [hz]; rfl
  obtain ⟨rfl, hff⟩ := hfo hz
  have HF := Kp.mk hff
  clear hfo hff
  have HZ := Kp.mk hz
  have HK := Kp.mk hk
  clear hz hk HH
  go_upto_region 3 with (refine wpList_store_new (vs := ocl o2 (.slice S n6 c6)) rfl (.tmp 5) (.tmp 12) rfl rfl rfl rfl rfl rfl agg_order rfl ?_; intro w3 hx3 hb3 hz3)
  have hv3 := hv2.below hb3 (by omega)
  have hR3 := hR2.below hb3
  have hr3 := hr2.below hb3
  have hT3 := hT2.trans (hb3.mono (by omega))
  have hz3' : w2.heap.size < w3.heap.size := by omega
  clear hz3 hv2 hR2 hb3 hT2 hr2
  go_wp2_with fail
  refine (refErr_any hR3).mono ?_
  rintro en wq ⟨rfl, rfl⟩
  cases fine
  · go_wp2_with (refine wpList_store_vb (vs := (ocl noOrd (.slice none 0 0))) rfl (.tmp 2) (.tmp 32) rfl rfl rfl hv3 rfl agg_order rfl ?_; intro w9 hv9 hg9 hz9)
    refine bodyPost_ret (results_pair Try.results21 _ rfl hv9 agg_order) rfl ?_
    exact ⟨none, 0, 0, rfl, Ron.nil _ _, (hT3.grown hg9 (by omega) (fun k e => by simp at e; omega))⟩
  · go_wp2_with fail
    refine (refEnd_any hR3).mono ?_
    rintro en wq ⟨rfl, rfl⟩
    rw [show endR l' e' = 0 by rw [HZ.out]; unfold endR; rw [if_neg HK.out.1]]
    go_wp2_with (refine wpList_load_want (vs := ocl o2 (.slice S n6 c6)) (by rfl) (.tmp 5) rfl rfl hx3 rfl agg_order ?_)
    refine (refOrderCheck_any o2 hr3.ro (Nat.le_refl _)).mono ?_
    rw [HK.out.2]
    rintro en w8 ⟨rfl, hb8⟩
    have hv8 := hv3.below hb8 (by omega)
    have hx8 := hx3.below hb8 (by omega)
    have hr8 := hr3.below hb8
    have hT8 := hT3.trans (hb8.mono (by omega))
    have hz8 := hb8.size
    go_wp2_with (refine wpList_store_vb (vs := (ocl noOrd (.slice none 0 0))) rfl (.tmp 2) (.tmp 32) rfl rfl rfl hv8 rfl agg_order rfl ?_; intro w9 hv9 hg9 hz9)
    refine bodyPost_ret (results_pair Try.results21 _ rfl hv9 agg_order) rfl ?_
    exact ⟨none, 0, 0, rfl, Ron.nil _ _, (hT8.grown hg9 (by omega) (fun k e => by simp at e; omega))⟩
set_option maxRecDepth 100000 in
set_option maxHeartbeats 3200000 in
theorem rps_ok {w : World} {B n c : Nat} {A : Option Addr} {l l1 l' : List Int} {v e1 e' : Int} {o : OrdV} (hr : Rd .u8 w B A n c l) (hl : By l) (hB : B ≤ w.heap.size) (hn : n ≤ 140737488355328) (h1 : nu 1 (l, 0) = (v, (l1, e1))) (h2 : restRd v (l1, e1) = (o, (l', e'))) (hh : e' = 0 ∧ (¬ 0 < l'.length ∧ checkO o = 0)) : Calls Try.prog 21 #[.slice A n c] w (OrdRet o 0 w) := by
  have H1 := Kp.mk h1
  have H2 := Kp.mk h2
  clear h1 h2
  have HH := Kp.mk hh
  clear hh
  have hbz := below_alloc w (.cells #[.int .i64 0, .int .i64 0, .int .i64 0, .int .i64 0, .int .i64 0, .int .i64 0, .int .i64 0, .int .i64 0, .int .i64 0, .int .u8 0, .int .u8 0, .int .u8 0, .int .u8 0, .int .u8 0, .int .u8 0, .slice none 0 0, .int .i64 0, .int .i64 0, .int .i64 0, .int .i64 0, .int .i64 0] 32)
  have hvz : Vb 32 (w.alloc (.cells #[.int .i64 0, .int .i64 0, .int .i64 0, .int .i64 0, .int .i64 0, .int .i64 0, .int .i64 0, .int .i64 0, .int .i64 0, .int .u8 0, .int .u8 0, .int .u8 0, .int .u8 0, .int .u8 0, .int .u8 0, .slice none 0 0, .int .i64 0, .int .i64 0, .int .i64 0, .int .i64 0, .int .i64 0] 32)) w.heap.size (ocl noOrd (.slice none 0 0)) := Vb.new 32 w (ocl noOrd (.slice none 0 0))
  have hrz := hr.below' hbz hB
  have hzz : w.heap.size < (w.alloc (.cells #[.int .i64 0, .int .i64 0, .int .i64 0, .int .i64 0, .int .i64 0, .int .i64 0, .int .i64 0, .int .i64 0, .int .i64 0, .int .u8 0, .int .u8 0, .int .u8 0, .int .u8 0, .int .u8 0, .int .u8 0, .slice none 0 0, .int .i64 0, .int .i64 0, .int .i64 0, .int .i64 0, .int .i64 0] 32)).heap.size := by simp
  go_enter Try.func21, Try.ntmps21
  go_upto_region 1 with fail
  generalize w.alloc (.cells #[.int .i64 0, .int .i64 0, .int .i64 0, .int .i64 0, .int .i64 0, .int .i64 0, .int .i64 0, .int .i64 0, .int .i64 0, .int .u8 0, .int .u8 0, .int .u8 0, .int .u8 0, .int .u8 0, .int .u8 0, .slice none 0 0, .int .i64 0, .int .i64 0, .int .i64 0, .int .i64 0, .int .i64 0] 32) = w0 at *
  go_wp2_with fail
  refine (refRead_any hrz hl (by omega) hn).mono ?_
  rintro en w1 ⟨g, rfl, hR1, hb1⟩
  have hlo : w0.heap.size ≤ g := by obtain ⟨_, _, _, _, hlo, _⟩ := hR1; exact hlo
  have hv1 := hvz.below hb1 (by omega)
  have hgl := hR1.lt
  have hT1 := hbz.trans (hb1.mono (by omega))
  have hz1 := hb1.size
  clear hvz hrz hb1 hbz
  go_wp2_with fail
  refine (take_any hR1 H1.out H2.out).mono ?_
  rintro en w2 ⟨o2, fine, S, n6, c6, hfo, rfl, hr2, hR2, hg2⟩
  have hv2 := hv1.grown hg2 (by omega)
  have hz2 := hg2.size
  have hT2 := below_grown (B := w.heap.size) hT1 hg2 (by omega) (by omega)
  replace hr2 := hr2.lower (lo' := w.heap.size + 1) (by omega)
  clear hv1 hR1 hg2 hT1
  obtain ⟨hz, hk⟩ := HH.out
  have hne : (e' != 0) = false := by rw [hz]; rfl
  obtain ⟨rfl, hff⟩ := hfo hz
  have HF := Kp.mk hff
  clear hfo hff
  have HZ := Kp.mk hz
  have HK := Kp.mk hk
  clear hz hk HH
  go_upto_region 3 with (refine wpList_store_new (vs := ocl o2 (.slice S n6 c6)) rfl (.tmp 5) (.tmp 12) rfl rfl rfl rfl rfl rfl agg_order rfl ?_; intro w3 hx3 hb3 hz3)
  have hv3 := hv2.below hb3 (by omega)
  have hR3 := hR2.below hb3
  have hr3 := hr2.below hb3
  have hT3 := hT2.trans (hb3.mono (by omega))
  have hz3' : w2.heap.size < w3.heap.size := by omega
  clear hz3 hv2 hR2 hb3 hT2 hr2
  go_wp2_with fail
  refine (refErr_any hR3).mono ?_
  rintro en wq ⟨rfl, rfl⟩
  cases fine
  · have := HF.out rfl
    exact absurd ((checkO_zero _).1 HK.out.2) this
  · go_wp2_with fail
    refine (refEnd_any hR3).mono ?_
    rintro en wq ⟨rfl, rfl⟩
    rw [show endR l' e' = 0 by rw [HZ.out]; unfold endR; rw [if_neg HK.out.1]]
    go_wp2_with (refine wpList_load_want (vs := ocl o2 (.slice S n6 c6)) (by rfl) (.tmp 5) rfl rfl hx3 rfl agg_order ?_)
    refine (refOrderCheck_any o2 hr3.ro (Nat.le_refl _)).mono ?_
    rw [HK.out.2]
    rintro en w8 ⟨rfl, hb8⟩
    have hv8 := hv3.below hb8 (by omega)
    have hx8 := hx3.below hb8 (by omega)
    have hr8 := hr3.below hb8
    have hT8 := hT3.trans (hb8.mono (by omega))
    have hz8 := hb8.size
    go_wp2_with (first | (refine wpList_load_vb (vs := ocl o2 (.slice S n6 c6)) rfl (.tmp 5) rfl rfl hx8 rfl agg_order ?_) | (refine wpList_store_vb (vs := ocl o2 (.slice S n6 c6)) rfl (.tmp 2) (.tmp 33) rfl rfl rfl hv8 rfl agg_order rfl ?_; intro w9 hv9 hg9 hz9))
    refine bodyPost_ret (results_pair Try.results21 _ rfl hv9 agg_order) rfl ?_
    exact ⟨S, n6, c6, rfl, (hr8.grown hg9 (by omega)).lower (by omega), (hT8.grown hg9 (by omega) (fun k e => by simp at e; omega))⟩
theorem refOrderParse_any {w : World} {B n c : Nat} {A : Option Addr} {l : List Int} (hr : Rd .u8 w B A n c l) (hl : By l) (hB : B ≤ w.heap.size) (hn : n ≤ 140737488355328) : Calls Try.prog 21 #[.slice A n c] w (OrdRet (parseO l).1 (parseO l).2 w) := by
  rcases h1 : nu 1 (l, 0) with ⟨v, l1, e1⟩
  rcases h2 : restRd v (l1, e1) with ⟨o, l', e'⟩
  have hq : ordRd (l, 0) = (o, (l', e')) := by unfold ordRd; rw [bnd_eq h1, h2]
  by_cases hz : e' = 0
  · by_cases hp : 0 < l'.length
    · have he : parseO l = (noOrd, 4) := parseO_form (by rw [hq, hz]) (fun h => by omega)
      rw [he]
      exact rps_end hr hl hB hn h1 h2 ⟨hz, hp⟩
    · by_cases hk : okOrd o
      · have he : parseO l = (o, 0) := parseO_yes (by rw [hq, hz]) ⟨by omega, hk⟩
        rw [he]
        exact rps_ok hr hl hB hn h1 h2 ⟨hz, hp, if_pos hk⟩
      · have he : parseO l = (noOrd, 4) := parseO_form (by rw [hq, hz]) (fun h => hk h.2)
        rw [he]
        exact rps_chk hr hl hB hn h1 h2 ⟨hz, hp, if_neg hk⟩
  · have he : parseO l = (noOrd, e') := parseO_err hq hz
    rw [he]
    exact rps_err hr hl hB hn h1 h2 hz
end Go.Proofs.Ytnhjpiaenbhilaa.Oct
