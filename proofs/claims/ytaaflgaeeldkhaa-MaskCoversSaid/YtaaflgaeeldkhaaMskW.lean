/- The chapter's masks: the functions only and works of the laws of layer 7. -/
import Derived.Test.YtaaflgaeeldkhaaMskE
import Derived.Test.YtaaflgaeeldkhaaMskP
namespace Go.Proofs.Ytaaflgaeeldkhaa.Oct
open Go.RowKit
set_option linter.unusedVariables false
set_option linter.unusedSimpArgs false

set_option maxRecDepth 100000 in
set_option maxHeartbeats 1600000 in
theorem onlyL_any (f b i : Int) (x : MaskV) (h : onlyV anyM f b i = x) (w : World) : Calls Try.prog 72 #[.int .i64 f, .int .u8 b, .int .u8 i] w fun e w' => e = .returned (.agg #[.int .i64 x.v, .int .i64 x.m, .int .u8 x.b0, .int .u8 x.b1, .int .u8 x.b2, .int .u8 x.i0, .int .u8 x.i1, .int .u8 x.i2]) ∧ Below w.heap.size w w' := by
  have hr : Vb 25 (w.alloc (.cells #[.int .i64 0, .int .i64 0, .int .u8 0, .int .u8 0, .int .u8 0, .int .u8 0, .int .u8 0, .int .u8 0] 25)) w.heap.size [.int .i64 0, .int .i64 0, .int .u8 0, .int .u8 0, .int .u8 0, .int .u8 0, .int .u8 0, .int .u8 0] := Vb.new 25 w [.int .i64 0, .int .i64 0, .int .u8 0, .int .u8 0, .int .u8 0, .int .u8 0, .int .u8 0, .int .u8 0]
  have hB := below_alloc w (.cells #[.int .i64 0, .int .i64 0, .int .u8 0, .int .u8 0, .int .u8 0, .int .u8 0, .int .u8 0, .int .u8 0] 25)
  have H := Kp.mk h
  clear h
  go_enter Try.func72, Try.ntmps72
  go_upto_region 1 with fail
  generalize w.alloc (.cells #[.int .i64 0, .int .i64 0, .int .u8 0, .int .u8 0, .int .u8 0, .int .u8 0, .int .u8 0, .int .u8 0] 25) = w0 at *
  go_wp2_with fail
  refine (anyM_any _).mono ?_
  rintro e w1 ⟨rfl, hb1⟩
  have hlt : w.heap.size < w0.heap.size := hr.lt
  replace hr := hr.below hb1 (by omega)
  replace hB := hB.trans (hb1.mono (by omega))
  replace hlt : w.heap.size < w1.heap.size := by have := hb1.size; omega
  clear hb1
  go_wp2_with fail
  refine (onlyM_any anyM f b i _).mono ?_
  rintro e w2 ⟨rfl, hb2⟩
  replace hr := hr.below hb2 (by omega)
  replace hB := hB.trans (hb2.mono (by omega))
  replace hlt : w.heap.size < w2.heap.size := by have := hb2.size; omega
  clear hb2
  rw [H.out]
  have hm1 : (mcl x).toArray = #[.int .i64 x.v, .int .i64 x.m, .int .u8 x.b0, .int .u8 x.b1, .int .u8 x.b2, .int .u8 x.i0, .int .u8 x.i1, .int .u8 x.i2] := rfl
  rw [hm1]
  clear hm1
  generalize onlyB anyM f b i = k at *
  go_upto_region 2 with (refine wpList_store_new (vs := [.int .i64 x.v, .int .i64 x.m, .int .u8 x.b0, .int .u8 x.b1, .int .u8 x.b2, .int .u8 x.i0, .int .u8 x.i1, .int .u8 x.i2]) rfl (.tmp 7) (.tmp 15) rfl rfl rfl rfl rfl rfl agg_mask rfl ?_; intro w3 hm hb3 hz3)
  replace hr := hr.below hb3 (by omega)
  replace hB := hB.trans (hb3.mono (by omega))
  clear hb3 hz3
  generalize w2.heap.size = g at *
  go_wp2_with (first | refine wpList_load_vb (vs := [.int .i64 x.v, .int .i64 x.m, .int .u8 x.b0, .int .u8 x.b1, .int .u8 x.b2, .int .u8 x.i0, .int .u8 x.i1, .int .u8 x.i2]) rfl (.tmp 7) rfl rfl hm rfl agg_mask ?_ | (refine wpList_store_vb (vs := [.int .i64 x.v, .int .i64 x.m, .int .u8 x.b0, .int .u8 x.b1, .int .u8 x.b2, .int .u8 x.i0, .int .u8 x.i1, .int .u8 x.i2]) rfl (.tmp 6) (.tmp 17) rfl rfl rfl hr rfl agg_mask rfl ?_; intro w9 hv9 hg9 hz9))
  refine bodyPost_ret (results_one Try.results72 _ rfl hv9 agg_mask) rfl ?_
  exact ⟨rfl, hB.grown hg9 (by have := hr.lt; omega) (fun k e => by simp at e; omega)⟩
theorem only_six (w : World) : Calls Try.prog 72 #[.int .i64 1, .int .u8 255, .int .u8 6] w fun e w' => e = .returned (.agg #[.int .i64 0, .int .i64 (-1), .int .u8 0, .int .u8 255, .int .u8 0, .int .u8 0, .int .u8 6, .int .u8 0]) ∧ Below w.heap.size w w' := onlyL_any 1 255 6 ⟨0, -1, 0, 255, 0, 0, 6, 0⟩ (by kernel_rfl) w
theorem only_a (w : World) : Calls Try.prog 72 #[.int .i64 0, .int .u8 240, .int .u8 16] w fun e w' => e = .returned (.agg #[.int .i64 0, .int .i64 (-1), .int .u8 240, .int .u8 0, .int .u8 0, .int .u8 16, .int .u8 0, .int .u8 0]) ∧ Below w.heap.size w w' := onlyL_any 0 240 16 ⟨0, -1, 240, 0, 0, 16, 0, 0⟩ (by kernel_rfl) w
theorem only_b (w : World) : Calls Try.prog 72 #[.int .i64 0, .int .u8 15, .int .u8 3] w fun e w' => e = .returned (.agg #[.int .i64 0, .int .i64 (-1), .int .u8 15, .int .u8 0, .int .u8 0, .int .u8 3, .int .u8 0, .int .u8 0]) ∧ Below w.heap.size w w' := onlyL_any 0 15 3 ⟨0, -1, 15, 0, 0, 3, 0, 0⟩ (by kernel_rfl) w
theorem only_one (w : World) : Calls Try.prog 72 #[.int .i64 0, .int .u8 1, .int .u8 1] w fun e w' => e = .returned (.agg #[.int .i64 0, .int .i64 (-1), .int .u8 1, .int .u8 0, .int .u8 0, .int .u8 1, .int .u8 0, .int .u8 0]) ∧ Below w.heap.size w w' := onlyL_any 0 1 1 ⟨0, -1, 1, 0, 0, 1, 0, 0⟩ (by kernel_rfl) w
theorem meet_19 (w : World) : Calls Try.prog 36 #[.agg #[.int .i64 0, .int .i64 (-1), .int .u8 240, .int .u8 0, .int .u8 0, .int .u8 16, .int .u8 0, .int .u8 0], .agg #[.int .i64 0, .int .i64 (-1), .int .u8 15, .int .u8 0, .int .u8 0, .int .u8 3, .int .u8 0, .int .u8 0]] w fun e w' => e = .returned (.tuple #[.agg #[.int .i64 0, .int .i64 (-1), .int .u8 255, .int .u8 0, .int .u8 0, .int .u8 19, .int .u8 0, .int .u8 0], .bool true]) ∧ Below w.heap.size w w' :=
  (meet_any ⟨0, -1, 240, 0, 0, 16, 0, 0⟩ ⟨0, -1, 15, 0, 0, 3, 0, 0⟩ w).mono (fun e w' h => ⟨h.1.trans (by rw [show meetV ⟨0, -1, 240, 0, 0, 16, 0, 0⟩ ⟨0, -1, 15, 0, 0, 3, 0, 0⟩ = ⟨0, -1, 255, 0, 0, 19, 0, 0⟩ by kernel_rfl, show meetB ⟨0, -1, 240, 0, 0, 16, 0, 0⟩ ⟨0, -1, 15, 0, 0, 3, 0, 0⟩ = true by decide +kernel]; rfl), h.2⟩)
theorem meet_23 (w : World) : Calls Try.prog 36 #[.agg #[.int .i64 2, .int .i64 (-1), .int .u8 0, .int .u8 0, .int .u8 0, .int .u8 0, .int .u8 0, .int .u8 0], .agg #[.int .i64 3, .int .i64 (-1), .int .u8 0, .int .u8 0, .int .u8 0, .int .u8 0, .int .u8 0, .int .u8 0]] w fun e w' => e = .returned (.tuple #[.agg #[.int .i64 0, .int .i64 0, .int .u8 0, .int .u8 0, .int .u8 0, .int .u8 0, .int .u8 0, .int .u8 0], .bool false]) ∧ Below w.heap.size w w' :=
  (meet_any ⟨2, -1, 0, 0, 0, 0, 0, 0⟩ ⟨3, -1, 0, 0, 0, 0, 0, 0⟩ w).mono (fun e w' h => ⟨h.1.trans (by rw [show meetV ⟨2, -1, 0, 0, 0, 0, 0, 0⟩ ⟨3, -1, 0, 0, 0, 0, 0, 0⟩ = ⟨0, 0, 0, 0, 0, 0, 0, 0⟩ by kernel_rfl, show meetB ⟨2, -1, 0, 0, 0, 0, 0, 0⟩ ⟨3, -1, 0, 0, 0, 0, 0, 0⟩ = false by decide +kernel]; rfl), h.2⟩)
theorem mfits_any (w : World) : Calls Try.prog 33 #[.agg #[.int .i64 0, .int .i64 (-1), .int .u8 0, .int .u8 0, .int .u8 0, .int .u8 0, .int .u8 0, .int .u8 0], .int .i64 3, .int .i64 1, .agg #[.int .u8 5, .int .u8 6, .int .u8 7]] w fun e w' => e = .returned (.bool true) ∧ Below w.heap.size w w' :=
  (fitsM_any ⟨0, -1, 0, 0, 0, 0, 0, 0⟩ 3 1 5 6 7 w).mono (fun e w' h => ⟨h.1.trans (by rw [show fitsM ⟨0, -1, 0, 0, 0, 0, 0, 0⟩ 3 1 5 6 7 = true by decide +kernel]), h.2⟩)
theorem mfits_six (w : World) : Calls Try.prog 33 #[.agg #[.int .i64 0, .int .i64 (-1), .int .u8 0, .int .u8 255, .int .u8 0, .int .u8 0, .int .u8 6, .int .u8 0], .int .i64 3, .int .i64 1, .agg #[.int .u8 5, .int .u8 6, .int .u8 7]] w fun e w' => e = .returned (.bool true) ∧ Below w.heap.size w w' :=
  (fitsM_any ⟨0, -1, 0, 255, 0, 0, 6, 0⟩ 3 1 5 6 7 w).mono (fun e w' h => ⟨h.1.trans (by rw [show fitsM ⟨0, -1, 0, 255, 0, 0, 6, 0⟩ 3 1 5 6 7 = true by decide +kernel]), h.2⟩)
theorem mfits_no (w : World) : Calls Try.prog 33 #[.agg #[.int .i64 0, .int .i64 (-1), .int .u8 0, .int .u8 255, .int .u8 0, .int .u8 0, .int .u8 6, .int .u8 0], .int .i64 3, .int .i64 1, .agg #[.int .u8 5, .int .u8 7, .int .u8 7]] w fun e w' => e = .returned (.bool false) ∧ Below w.heap.size w w' :=
  (fitsM_any ⟨0, -1, 0, 255, 0, 0, 6, 0⟩ 3 1 5 7 7 w).mono (fun e w' h => ⟨h.1.trans (by rw [show fitsM ⟨0, -1, 0, 255, 0, 0, 6, 0⟩ 3 1 5 7 7 = false by decide +kernel]), h.2⟩)
theorem cov_yes (w : World) : Calls Try.prog 38 #[.agg #[.int .i64 0, .int .i64 (-1), .int .u8 0, .int .u8 0, .int .u8 0, .int .u8 0, .int .u8 0, .int .u8 0], .agg #[.int .i64 0, .int .i64 (-1), .int .u8 1, .int .u8 0, .int .u8 0, .int .u8 1, .int .u8 0, .int .u8 0]] w fun e w' => e = .returned (.bool true) ∧ Below w.heap.size w w' :=
  (coversM_any ⟨0, -1, 0, 0, 0, 0, 0, 0⟩ ⟨0, -1, 1, 0, 0, 1, 0, 0⟩ w).mono (fun e w' h => ⟨h.1.trans (by rw [show coversP ⟨0, -1, 0, 0, 0, 0, 0, 0⟩ ⟨0, -1, 1, 0, 0, 1, 0, 0⟩ = true by decide +kernel]), h.2⟩)
theorem cov_no (w : World) : Calls Try.prog 38 #[.agg #[.int .i64 0, .int .i64 (-1), .int .u8 1, .int .u8 0, .int .u8 0, .int .u8 1, .int .u8 0, .int .u8 0], .agg #[.int .i64 0, .int .i64 (-1), .int .u8 0, .int .u8 0, .int .u8 0, .int .u8 0, .int .u8 0, .int .u8 0]] w fun e w' => e = .returned (.bool false) ∧ Below w.heap.size w w' :=
  (coversM_any ⟨0, -1, 1, 0, 0, 1, 0, 0⟩ ⟨0, -1, 0, 0, 0, 0, 0, 0⟩ w).mono (fun e w' h => ⟨h.1.trans (by rw [show coversP ⟨0, -1, 1, 0, 0, 1, 0, 0⟩ ⟨0, -1, 0, 0, 0, 0, 0, 0⟩ = false by decide +kernel]), h.2⟩)
set_option maxRecDepth 100000 in
set_option maxHeartbeats 4000000 in
theorem worksM_any (w : World) : Calls Try.prog 35 #[] w fun e w' => e = .returned (.bool true) ∧ Below w.heap.size w w' := by
  have he := Kp.mk (fun W => (eq_mask ⟨0, -1, 255, 0, 0, 19, 0, 0⟩ ⟨0, -1, 255, 0, 0, 19, 0, 0⟩ W).trans (by rw [show eqMB ⟨0, -1, 255, 0, 0, 19, 0, 0⟩ ⟨0, -1, 255, 0, 0, 19, 0, 0⟩ = true by decide +kernel]))
  have hB : Below w.heap.size w w := Below.refl _ _
  go_enter Try.func35, Try.ntmps35
  go_wp2_with fail
  refine (only_six _).mono ?_
  rintro e w1 ⟨rfl, hb1⟩
  have hs1 : w.heap.size ≤ w1.heap.size := by have := hb1.size; have := hB.size; omega
  replace hB := hB.trans (hb1.mono hB.size)
  clear hb1 hs1
  go_upto_region 2 with (refine wpList_store_new (vs := [.int .i64 0, .int .i64 (-1), .int .u8 0, .int .u8 255, .int .u8 0, .int .u8 0, .int .u8 6, .int .u8 0]) rfl (.tmp 1) (.tmp 7) rfl rfl rfl rfl rfl rfl agg_mask rfl ?_; intro w2 hsix hb2 hz2)
  replace hB := hB.trans (hb2.mono hB.size)
  clear hb2 hz2
  generalize w1.heap.size = g2 at *
  go_wp2_with fail
  refine (only_a _).mono ?_
  rintro e w3 ⟨rfl, hb3⟩
  have hs3 : w.heap.size ≤ w3.heap.size := by have := hb3.size; have := hB.size; omega
  replace hB := hB.trans (hb3.mono hB.size)
  replace hsix := hsix.below hb3 hsix.lt
  clear hb3 hs3
  go_wp2_with fail
  refine (only_b _).mono ?_
  rintro e w4 ⟨rfl, hb4⟩
  have hs4 : w.heap.size ≤ w4.heap.size := by have := hb4.size; have := hB.size; omega
  replace hB := hB.trans (hb4.mono hB.size)
  replace hsix := hsix.below hb4 hsix.lt
  clear hb4 hs4
  go_wp2_with fail
  refine (meet_19 _).mono ?_
  rintro e w5 ⟨rfl, hb5⟩
  have hs5 : w.heap.size ≤ w5.heap.size := by have := hb5.size; have := hB.size; omega
  replace hB := hB.trans (hb5.mono hB.size)
  replace hsix := hsix.below hb5 hsix.lt
  clear hb5 hs5
  go_upto_region 3 with (refine wpList_store_new (vs := [.int .i64 0, .int .i64 (-1), .int .u8 255, .int .u8 0, .int .u8 0, .int .u8 19, .int .u8 0, .int .u8 0]) rfl (.tmp 2) (.tmp 12) rfl rfl rfl rfl rfl rfl agg_mask rfl ?_; intro w6 hm hb6 hz6)
  replace hsix := hsix.below hb6 hsix.lt
  replace hB := hB.trans (hb6.mono hB.size)
  clear hb6 hz6
  generalize w5.heap.size = g6 at *
  go_wp2_with fail
  refine (meet_23 _).mono ?_
  rintro e w7 ⟨rfl, hb7⟩
  have hs7 : w.heap.size ≤ w7.heap.size := by have := hb7.size; have := hB.size; omega
  replace hB := hB.trans (hb7.mono hB.size)
  replace hsix := hsix.below hb7 hsix.lt
  replace hm := hm.below hb7 hm.lt
  clear hb7 hs7
  go_upto_region 4 with (refine wpList_store_new (vs := [.int .i64 0, .int .i64 0, .int .u8 0, .int .u8 0, .int .u8 0, .int .u8 0, .int .u8 0, .int .u8 0]) rfl (.tmp 4) (.tmp 18) rfl rfl rfl rfl rfl rfl agg_mask rfl ?_; intro w8 hz hb8 hz8)
  replace hsix := hsix.below hb8 hsix.lt
  replace hm := hm.below hb8 hm.lt
  replace hB := hB.trans (hb8.mono hB.size)
  clear hb8 hz8
  generalize w7.heap.size = g8 at *
  clear hz
  go_wp2_with fail
  refine (anyM_any _).mono ?_
  rintro e w9 ⟨rfl, hb9⟩
  have hs9 : w.heap.size ≤ w9.heap.size := by have := hb9.size; have := hB.size; omega
  replace hB := hB.trans (hb9.mono hB.size)
  replace hsix := hsix.below hb9 hsix.lt
  replace hm := hm.below hb9 hm.lt
  clear hb9 hs9
  go_wp2_with fail
  refine (mfits_any _).mono ?_
  rintro e w10 ⟨rfl, hb10⟩
  have hs10 : w.heap.size ≤ w10.heap.size := by have := hb10.size; have := hB.size; omega
  replace hB := hB.trans (hb10.mono hB.size)
  replace hsix := hsix.below hb10 hsix.lt
  replace hm := hm.below hb10 hm.lt
  clear hb10 hs10
  obtain ⟨d0, d1, d2, d3, d4, d5, d6, d7⟩ := hsix.c8
  go_wp2_with fail
  clear d0 d1 d2 d3 d4 d5 d6 d7
  refine (mfits_six _).mono ?_
  rintro e w11 ⟨rfl, hb11⟩
  have hs11 : w.heap.size ≤ w11.heap.size := by have := hb11.size; have := hB.size; omega
  replace hB := hB.trans (hb11.mono hB.size)
  replace hsix := hsix.below hb11 hsix.lt
  replace hm := hm.below hb11 hm.lt
  clear hb11 hs11
  obtain ⟨d0, d1, d2, d3, d4, d5, d6, d7⟩ := hsix.c8
  go_wp2_with fail
  clear d0 d1 d2 d3 d4 d5 d6 d7
  refine (mfits_no _).mono ?_
  rintro e w12 ⟨rfl, hb12⟩
  have hs12 : w.heap.size ≤ w12.heap.size := by have := hb12.size; have := hB.size; omega
  replace hB := hB.trans (hb12.mono hB.size)
  replace hsix := hsix.below hb12 hsix.lt
  replace hm := hm.below hb12 hm.lt
  clear hb12 hs12
  clear hsix
  go_upto_region 5 with fail
  obtain ⟨m0, m1, m2, m3, m4, m5, m6, m7⟩ := hm.c8
  have hq := he.out
  go_wp2_with fail
  clear m0 m1 m2 m3 m4 m5 m6 m7
  refine (anyM_any _).mono ?_
  rintro e w13 ⟨rfl, hb13⟩
  have hs13 : w.heap.size ≤ w13.heap.size := by have := hb13.size; have := hB.size; omega
  replace hB := hB.trans (hb13.mono hB.size)
  replace hm := hm.below hb13 hm.lt
  clear hb13 hs13
  go_wp2_with fail
  refine (only_one _).mono ?_
  rintro e w14 ⟨rfl, hb14⟩
  have hs14 : w.heap.size ≤ w14.heap.size := by have := hb14.size; have := hB.size; omega
  replace hB := hB.trans (hb14.mono hB.size)
  replace hm := hm.below hb14 hm.lt
  clear hb14 hs14
  go_wp2_with fail
  refine (cov_yes _).mono ?_
  rintro e w15 ⟨rfl, hb15⟩
  have hs15 : w.heap.size ≤ w15.heap.size := by have := hb15.size; have := hB.size; omega
  replace hB := hB.trans (hb15.mono hB.size)
  replace hm := hm.below hb15 hm.lt
  clear hb15 hs15
  go_wp2_with fail
  refine (only_one _).mono ?_
  rintro e w16 ⟨rfl, hb16⟩
  have hs16 : w.heap.size ≤ w16.heap.size := by have := hb16.size; have := hB.size; omega
  replace hB := hB.trans (hb16.mono hB.size)
  replace hm := hm.below hb16 hm.lt
  clear hb16 hs16
  go_wp2_with fail
  refine (anyM_any _).mono ?_
  rintro e w17 ⟨rfl, hb17⟩
  have hs17 : w.heap.size ≤ w17.heap.size := by have := hb17.size; have := hB.size; omega
  replace hB := hB.trans (hb17.mono hB.size)
  replace hm := hm.below hb17 hm.lt
  clear hb17 hs17
  go_wp2_with fail
  refine (cov_no _).mono ?_
  rintro e w18 ⟨rfl, hb18⟩
  have hs18 : w.heap.size ≤ w18.heap.size := by have := hb18.size; have := hB.size; omega
  replace hB := hB.trans (hb18.mono hB.size)
  replace hm := hm.below hb18 hm.lt
  clear hb18 hs18
  go_wp2_with fail
  go_ret
  exact ⟨rfl, hB⟩
end Go.Proofs.Ytaaflgaeeldkhaa.Oct
