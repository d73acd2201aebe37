/- Layer 16 (hail): works. -/
import Derived.Test.YtomjnpjabfnlbaaHaiE
namespace Go.Proofs.Ytomjnpjabfnlbaa.Oct
open Go.RowKit
set_option linter.unusedVariables false
set_option linter.unusedSimpArgs false

set_option maxRecDepth 100000 in
set_option maxHeartbeats 4000000 in
theorem worksH_any (w : World) : Calls Try.prog 23 #[] w fun en w' => en = .returned (.bool true) ∧ Below w.heap.size w w' := by
  go_enter Try.func23, Try.ntmps23
  go_wp2_with fail
  refine (meets_yes (Below.refl _ w) 2 5 3 (by decide) (by decide) (by decide)).mono ?_
  rintro e w0 ⟨c, g, rfl, h⟩
  go_wp2_with fail
  refine (h.says1).mono ?_
  rintro e w1 ⟨rfl, h2, hb⟩
  clear h hb
  have h := h2
  clear h2
  go_upto_region 5 with fail
  have hN := new_seg9 w1 1 2 0 12 0 0 0 0 none 0 0
  have h2 := h.below hN.2
  clear h
  have h := h2
  clear h2
  obtain ⟨z4, hz⟩ : ∃ x, x = w1.heap.size := ⟨_, rfl⟩
  rw [← hz] at hN ⊢
  have HZ4 := Kp.mk hz
  clear hz
  have v4 := hN.1
  clear hN
  generalize w1.alloc (.cells #[.int .i64 1, .int .i64 2, .int .i64 0, .int .i64 12, .int .i64 0, .int .i64 0, .int .i64 0, .int .i64 0, .slice none 0 0] 31) = w2 at *
  obtain ⟨n4_0, n4_1, n4_2, n4_3, n4_4, n4_5, n4_6, n4_7, n4_8⟩ := seg_nine v4
  go_wp2_with fail
  refine (h.gHello (by omega)).mono ?_
  rintro e w3 ⟨rfl, h2, hb⟩
  replace v4 := v4.grown hb (vb_ne v4 h.gb (by decide))
  clear h hb
  have h := h2
  clear h2
  clear n4_0 n4_1 n4_2 n4_3 n4_4 n4_5 n4_6 n4_7 n4_8
  go_upto_region 6 with fail
  have hN := new_seg9 w3 2 0 2 12 0 3 0 0 none 0 0
  have h2 := h.below hN.2
  clear h
  have h := h2
  clear h2
  replace v4 := v4.below hN.2 v4.lt
  obtain ⟨z6, hz⟩ : ∃ x, x = w3.heap.size := ⟨_, rfl⟩
  rw [← hz] at hN ⊢
  have HZ6 := Kp.mk hz
  clear hz
  have v6 := hN.1
  clear hN
  generalize w3.alloc (.cells #[.int .i64 2, .int .i64 0, .int .i64 2, .int .i64 12, .int .i64 0, .int .i64 3, .int .i64 0, .int .i64 0, .slice none 0 0] 31) = w4 at *
  obtain ⟨n4_0, n4_1, n4_2, n4_3, n4_4, n4_5, n4_6, n4_7, n4_8⟩ := seg_nine v4
  obtain ⟨n6_0, n6_1, n6_2, n6_3, n6_4, n6_5, n6_6, n6_7, n6_8⟩ := seg_nine v6
  go_wp2_with fail
  refine (h.tHi (by omega) (by omega)).mono ?_
  rintro e w5 ⟨rfl, h2, hb⟩
  replace v4 := v4.grown hb (vb_ne v4 h.cb (by decide))
  replace v6 := v6.grown hb (vb_ne v6 h.cb (by decide))
  clear h hb
  have h := h2
  clear h2
  clear n4_0 n4_1 n4_2 n4_3 n4_4 n4_5 n4_6 n4_7 n4_8
  clear n6_0 n6_1 n6_2 n6_3 n6_4 n6_5 n6_6 n6_7 n6_8
  go_wp2_with fail
  refine (h.says2).mono ?_
  rintro e w6 ⟨rfl, h2, hb⟩
  replace v4 := v4.below hb v4.lt
  replace v6 := v6.below hb v6.lt
  clear h hb
  have h := h2
  clear h2
  go_upto_region 9 with fail
  have hN := new_seg9 w6 3 2 0 12 5 3 0 0 none 0 0
  have h2 := h.below hN.2
  clear h
  have h := h2
  clear h2
  replace v4 := v4.below hN.2 v4.lt
  replace v6 := v6.below hN.2 v6.lt
  obtain ⟨z9, hz⟩ : ∃ x, x = w6.heap.size := ⟨_, rfl⟩
  rw [← hz] at hN ⊢
  have HZ9 := Kp.mk hz
  clear hz
  have v9 := hN.1
  clear hN
  generalize w6.alloc (.cells #[.int .i64 3, .int .i64 2, .int .i64 0, .int .i64 12, .int .i64 5, .int .i64 3, .int .i64 0, .int .i64 0, .slice none 0 0] 31) = w7 at *
  obtain ⟨n9_0, n9_1, n9_2, n9_3, n9_4, n9_5, n9_6, n9_7, n9_8⟩ := seg_nine v9
  go_wp2_with fail
  refine (h.gSyn 5 (by omega) (by omega) (by omega) (by omega) (B := true) rfl).mono ?_
  rintro e w8 ⟨rfl, h2, hb⟩
  replace v4 := v4.grown hb (vb_ne v4 h.gb (by decide))
  replace v6 := v6.grown hb (vb_ne v6 h.gb (by decide))
  replace v9 := v9.grown hb (vb_ne v9 h.gb (by decide))
  clear h hb
  have h := h2
  clear h2
  clear n9_0 n9_1 n9_2 n9_3 n9_4 n9_5 n9_6 n9_7 n9_8
  go_upto_region 10 with fail
  have hN := new_seg9 w8 4 0 2 12 5 0 0 0 none 0 0
  have h2 := h.below hN.2
  clear h
  have h := h2
  clear h2
  replace v4 := v4.below hN.2 v4.lt
  replace v6 := v6.below hN.2 v6.lt
  replace v9 := v9.below hN.2 v9.lt
  obtain ⟨z11, hz⟩ : ∃ x, x = w8.heap.size := ⟨_, rfl⟩
  rw [← hz] at hN ⊢
  have HZ11 := Kp.mk hz
  clear hz
  have v11 := hN.1
  clear hN
  generalize w8.alloc (.cells #[.int .i64 4, .int .i64 0, .int .i64 2, .int .i64 12, .int .i64 5, .int .i64 0, .int .i64 0, .int .i64 0, .slice none 0 0] 31) = w9 at *
  obtain ⟨n9_0, n9_1, n9_2, n9_3, n9_4, n9_5, n9_6, n9_7, n9_8⟩ := seg_nine v9
  obtain ⟨n11_0, n11_1, n11_2, n11_3, n11_4, n11_5, n11_6, n11_7, n11_8⟩ := seg_nine v11
  go_wp2_with fail
  refine (h.tAck (by omega) (by omega)).mono ?_
  rintro e w10 ⟨rfl, h2, hb⟩
  replace v4 := v4.grown hb (vb_ne v4 h.cb (by decide))
  replace v6 := v6.grown hb (vb_ne v6 h.cb (by decide))
  replace v9 := v9.grown hb (vb_ne v9 h.cb (by decide))
  replace v11 := v11.grown hb (vb_ne v11 h.cb (by decide))
  clear h hb
  have h := h2
  clear h2
  clear n9_0 n9_1 n9_2 n9_3 n9_4 n9_5 n9_6 n9_7 n9_8
  clear n11_0 n11_1 n11_2 n11_3 n11_4 n11_5 n11_6 n11_7 n11_8
  go_wp2_with fail
  refine h.open_.mono ?_
  rintro e wx ⟨rfl, hw⟩
  replace hw := hw.symm
  subst hw
  rw [show ((3 : Int) == 3) = true from rfl]
  go_wp2_with fail
  refine (h.says3).mono ?_
  rintro e w11 ⟨rfl, h2, hb⟩
  replace v4 := v4.below hb v4.lt
  replace v6 := v6.below hb v6.lt
  replace v9 := v9.below hb v9.lt
  replace v11 := v11.below hb v11.lt
  clear h hb
  have h := h2
  clear h2
  go_upto_region 13 with fail
  have hN := new_seg9 w11 0 0 0 0 0 0 0 0 none 0 0
  have h2 := h.below hN.2
  clear h
  have h := h2
  clear h2
  replace v4 := v4.below hN.2 v4.lt
  replace v6 := v6.below hN.2 v6.lt
  replace v9 := v9.below hN.2 v9.lt
  replace v11 := v11.below hN.2 v11.lt
  obtain ⟨z14, hz⟩ : ∃ x, x = w11.heap.size := ⟨_, rfl⟩
  rw [← hz] at hN ⊢
  have HZ14 := Kp.mk hz
  clear hz
  have v14 := hN.1
  clear hN
  generalize w11.alloc (.cells #[.int .i64 0, .int .i64 0, .int .i64 0, .int .i64 0, .int .i64 0, .int .i64 0, .int .i64 0, .int .i64 0, .slice none 0 0] 31) = w12 at *
  obtain ⟨n9_0, n9_1, n9_2, n9_3, n9_4, n9_5, n9_6, n9_7, n9_8⟩ := seg_nine v9
  go_wp2_with fail
  refine (h.gSyn 5 (by omega) (by omega) (by omega) (by omega) (B := false) rfl).mono ?_
  rintro e w13 ⟨rfl, h2, hb⟩
  replace v4 := v4.grown hb (vb_ne v4 h.gb (by decide))
  replace v6 := v6.grown hb (vb_ne v6 h.gb (by decide))
  replace v9 := v9.grown hb (vb_ne v9 h.gb (by decide))
  replace v11 := v11.grown hb (vb_ne v11 h.gb (by decide))
  replace v14 := v14.grown hb (vb_ne v14 h.gb (by decide))
  clear h hb
  have h := h2
  clear h2
  clear n9_0 n9_1 n9_2 n9_3 n9_4 n9_5 n9_6 n9_7 n9_8
  go_upto_region 14 with fail
  have hN := new_seg9 w13 4 0 2 12 5 0 0 0 none 0 0
  have h2 := h.below hN.2
  clear h
  have h := h2
  clear h2
  replace v4 := v4.below hN.2 v4.lt
  replace v6 := v6.below hN.2 v6.lt
  replace v9 := v9.below hN.2 v9.lt
  replace v11 := v11.below hN.2 v11.lt
  replace v14 := v14.below hN.2 v14.lt
  obtain ⟨z16, hz⟩ : ∃ x, x = w13.heap.size := ⟨_, rfl⟩
  rw [← hz] at hN ⊢
  have HZ16 := Kp.mk hz
  clear hz
  have v16 := hN.1
  clear hN
  generalize w13.alloc (.cells #[.int .i64 4, .int .i64 0, .int .i64 2, .int .i64 12, .int .i64 5, .int .i64 0, .int .i64 0, .int .i64 0, .slice none 0 0] 31) = w14 at *
  obtain ⟨n16_0, n16_1, n16_2, n16_3, n16_4, n16_5, n16_6, n16_7, n16_8⟩ := seg_nine v16
  go_wp2_with fail
  refine h.epoch.mono ?_
  rintro e wx ⟨rfl, hw⟩
  replace hw := hw.symm
  subst hw
  have HO := Kp.mk h.old
  clear h
  go_wp2_with fail
  go_ret
  exact ⟨rfl, HO.out⟩
end Go.Proofs.Ytomjnpjabfnlbaa.Oct
