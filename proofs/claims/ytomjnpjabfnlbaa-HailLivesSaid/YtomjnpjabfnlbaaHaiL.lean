/- Layer 16 (hail): HailLives. -/
import Derived.Test.YtomjnpjabfnlbaaHaiF
import Derived.Test.YtomjnpjabfnlbaaBring
namespace Go.Proofs.Ytomjnpjabfnlbaa.Oct
open Go.RowKit
set_option linter.unusedVariables false
set_option linter.unusedSimpArgs false

set_option maxRecDepth 100000 in
set_option maxHeartbeats 4000000 in
theorem hailLives_any (had epoch boot : Int) (w : World) : Calls Try.prog 5 #[.int .i64 had, .int .i64 epoch, .int .i64 boot] w fun en w' => en = .returned (.bool true) ∧ Below w.heap.size w w' := by
  have hb1 := Ser.bring_any had 9 w (by omega) (by omega)
  have hb2 := Ser.bring_any epoch 9 w (by omega) (by omega)
  have hb3 := Ser.bring_any boot 4294967296 w (by omega) (by omega)
  have k1 := Ser.bringP_bd had 9 (by omega)
  have k2 := Ser.bringP_bd epoch 9 (by omega)
  have k3 := Ser.bringP_bd boot 4294967296 (by omega)
  generalize Ser.bringP had 9 = H at *
  generalize Ser.bringP epoch 9 = y at *
  generalize Ser.bringP boot 4294967296 = B at *
  obtain ⟨X, hX⟩ : ∃ X, X = 1 + y := ⟨_, rfl⟩
  have e2 : wrap64 (1 + y) = X := by unfold wrap64; omega
  have HK := Kp.mk (show 0 ≤ H ∧ H ≤ 8 ∧ 1 ≤ X ∧ X ≤ 9 ∧ 0 ≤ B ∧ B ≤ 4294967295 by omega)
  clear k1 k2 k3 hX
  go_enter Try.func5, Try.ntmps5
  go_wp2_with fail
  refine hb1.mono ?_
  rintro e u1 ⟨rfl, hw⟩
  subst hw
  clear hb1
  go_wp2_with fail
  refine hb2.mono ?_
  rintro e u1 ⟨rfl, hw⟩
  subst hw
  clear hb2
  go_wp2_with fail
  refine hb3.mono ?_
  rintro e u1 ⟨rfl, hw⟩
  subst hw
  clear hb3
  go_upto_region 2 with fail

  clear e2
  have hm := meets_yes (Below.refl _ w) 3 X B (by decide) (decide_eq_true (by have := HK.out; omega)) (decide_eq_true (by have := HK.out; omega))
  go_wp2_with fail
  refine hm.mono ?_
  rintro e w0 ⟨c, g, rfl, h⟩
  clear hm
  by_cases h0 : 0 < H
  · by_cases h1 : H ≤ X
    · skip
      go_wp2_with fail
      refine (h.gSyn0 H (by omega) (by have := HK.out; omega) (by have := HK.out; omega) (by have := HK.out; omega) (B := true) (decide_eq_true (by have := HK.out; omega))).mono ?_
      rintro e w1 ⟨rfl, h2, hb⟩
      clear h hb
      have h := h2
      clear h2
      go_wp2_with fail
      refine wp_loop_rounds 3 ?_
      rw [rounds_succ]
      go_wp2_with fail
      refine (h.says1).mono ?_
      rintro e w2 ⟨rfl, h2, hb⟩
      clear h hb
      have h := h2
      clear h2
      go_upto_region 11 with fail
      have hN := new_seg9 w2 (1) (3) (0) (12) (0) (0) 0 0 none 0 0
      have h2 := h.below hN.2
      clear h
      have h := h2
      clear h2
      obtain ⟨za, hz⟩ : ∃ x, x = w2.heap.size := ⟨_, rfl⟩
      rw [← hz] at hN ⊢
      have HZa := Kp.mk hz
      clear hz
      have va := hN.1
      clear hN
      generalize w2.alloc (.cells #[.int .i64 1, .int .i64 3, .int .i64 0, .int .i64 12, .int .i64 0, .int .i64 0, .int .i64 0, .int .i64 0, .slice none 0 0] 31) = w3 at *
      obtain ⟨na_0, na_1, na_2, na_3, na_4, na_5, na_6, na_7, na_8⟩ := seg_nine va
      go_wp2_with fail
      refine (h.gHello (by omega)).mono ?_
      rintro e w4 ⟨rfl, h2, hb⟩
      replace va := va.grown hb (vb_ne va h.gb (by decide))
      clear h hb
      have h := h2
      clear h2
      clear na_0 na_1 na_2 na_3 na_4 na_5 na_6 na_7 na_8
      go_upto_region 12 with fail
      have hN := new_seg9 w4 (2) (0) (3) (12) (0) (B) 0 0 none 0 0
      have h2 := h.below hN.2
      clear h
      have h := h2
      clear h2
      replace va := va.below hN.2 va.lt
      obtain ⟨zb, hz⟩ : ∃ x, x = w4.heap.size := ⟨_, rfl⟩
      rw [← hz] at hN ⊢
      have HZb := Kp.mk hz
      clear hz
      have vb := hN.1
      clear hN
      generalize w4.alloc (.cells #[.int .i64 2, .int .i64 0, .int .i64 3, .int .i64 12, .int .i64 0, .int .i64 B, .int .i64 0, .int .i64 0, .slice none 0 0] 31) = w5 at *
      obtain ⟨nb_0, nb_1, nb_2, nb_3, nb_4, nb_5, nb_6, nb_7, nb_8⟩ := seg_nine vb
      go_wp2_with fail
      refine (h.tHi (by omega) (by have := HK.out; omega)).mono ?_
      rintro e w6 ⟨rfl, h2, hb⟩
      replace va := va.grown hb (vb_ne va h.cb (by decide))
      replace vb := vb.grown hb (vb_ne vb h.cb (by decide))
      clear h hb
      have h := h2
      clear h2
      clear nb_0 nb_1 nb_2 nb_3 nb_4 nb_5 nb_6 nb_7 nb_8
      clear va
      clear vb
      go_wp2_with fail
      rw [rounds_succ]
      go_wp2_with fail
      refine (h.says2).mono ?_
      rintro e w7 ⟨rfl, h2, hb⟩
      clear h hb
      have h := h2
      clear h2
      go_upto_region 11 with fail
      have hN := new_seg9 w7 (3) (3) (0) (12) (X) (B) 0 0 none 0 0
      have h2 := h.below hN.2
      clear h
      have h := h2
      clear h2
      obtain ⟨zc, hz⟩ : ∃ x, x = w7.heap.size := ⟨_, rfl⟩
      rw [← hz] at hN ⊢
      have HZc := Kp.mk hz
      clear hz
      have vc := hN.1
      clear hN
      generalize w7.alloc (.cells #[.int .i64 3, .int .i64 3, .int .i64 0, .int .i64 12, .int .i64 X, .int .i64 B, .int .i64 0, .int .i64 0, .slice none 0 0] 31) = w8 at *
      obtain ⟨nc_0, nc_1, nc_2, nc_3, nc_4, nc_5, nc_6, nc_7, nc_8⟩ := seg_nine vc
      obtain ⟨Bb, hBb⟩ : ∃ x, decide (H < X) = x := ⟨_, rfl⟩
      go_wp2_with fail
      refine (h.gSyn X (by omega) (by have := HK.out; omega) (by have := HK.out; omega) (by have := HK.out; omega) (B := Bb) hBb).mono ?_
      rintro e w9 ⟨rfl, h2, hb⟩
      replace vc := vc.grown hb (vb_ne vc h.gb (by decide))
      clear h hb
      have h := h2
      clear h2
      clear nc_0 nc_1 nc_2 nc_3 nc_4 nc_5 nc_6 nc_7 nc_8
      clear vc
      go_upto_region 12 with fail
      have hN := new_seg9 w9 (4) (0) (3) (12) (X) (0) 0 0 none 0 0
      have h2 := h.below hN.2
      clear h
      have h := h2
      clear h2
      obtain ⟨zd, hz⟩ : ∃ x, x = w9.heap.size := ⟨_, rfl⟩
      rw [← hz] at hN ⊢
      have HZd := Kp.mk hz
      clear hz
      have vd := hN.1
      clear hN
      generalize w9.alloc (.cells #[.int .i64 4, .int .i64 0, .int .i64 3, .int .i64 12, .int .i64 X, .int .i64 0, .int .i64 0, .int .i64 0, .slice none 0 0] 31) = w10 at *
      obtain ⟨nd_0, nd_1, nd_2, nd_3, nd_4, nd_5, nd_6, nd_7, nd_8⟩ := seg_nine vd
      go_wp2_with fail
      refine (h.tAck (by omega) (by have := HK.out; omega)).mono ?_
      rintro e w11 ⟨rfl, h2, hb⟩
      replace vd := vd.grown hb (vb_ne vd h.cb (by decide))
      clear h hb
      have h := h2
      clear h2
      clear nd_0 nd_1 nd_2 nd_3 nd_4 nd_5 nd_6 nd_7 nd_8
      clear vd
      go_wp2_with fail
      rw [rounds_succ]
      go_wp2_with fail
      refine (h.open_).mono ?_
      rintro e wx ⟨rfl, hw⟩
      replace hw := hw.symm
      subst hw
      rw [show (3 == (3 : Int)) = true from rfl]
      go_wp2_with fail
      refine (h.epoch).mono ?_
      rintro e wx ⟨rfl, hw⟩
      replace hw := hw.symm
      subst hw
      have HO := Kp.mk h.old
      clear h
      go_wp2_with fail
      all_goals (refine (worksH_any _).mono ?_; rintro e wz ⟨rfl, hbz⟩; go_wp2_with fail; go_ret; exact ⟨rfl, HO.out.trans (hbz.mono HO.out.size)⟩)
    · have h2 : X < H := by omega
      have hd : decide (H ≤ X) = false := decide_eq_false (by omega)
      clear h1
      go_wp2_with fail
      refine (h.gSyn0 H (by omega) (by have := HK.out; omega) (by have := HK.out; omega) (by have := HK.out; omega) (B := true) (decide_eq_true (by have := HK.out; omega))).mono ?_
      rintro e w1 ⟨rfl, h2, hb⟩
      clear h hb
      have h := h2
      clear h2
      go_wp2_with fail
      refine wp_loop_rounds 3 ?_
      rw [rounds_succ]
      go_wp2_with fail
      refine (h.says1).mono ?_
      rintro e w2 ⟨rfl, h2, hb⟩
      clear h hb
      have h := h2
      clear h2
      go_upto_region 11 with fail
      have hN := new_seg9 w2 (1) (3) (0) (12) (0) (0) 0 0 none 0 0
      have h2 := h.below hN.2
      clear h
      have h := h2
      clear h2
      obtain ⟨za, hz⟩ : ∃ x, x = w2.heap.size := ⟨_, rfl⟩
      rw [← hz] at hN ⊢
      have HZa := Kp.mk hz
      clear hz
      have va := hN.1
      clear hN
      generalize w2.alloc (.cells #[.int .i64 1, .int .i64 3, .int .i64 0, .int .i64 12, .int .i64 0, .int .i64 0, .int .i64 0, .int .i64 0, .slice none 0 0] 31) = w3 at *
      obtain ⟨na_0, na_1, na_2, na_3, na_4, na_5, na_6, na_7, na_8⟩ := seg_nine va
      go_wp2_with fail
      refine (h.gHello (by omega)).mono ?_
      rintro e w4 ⟨rfl, h2, hb⟩
      replace va := va.grown hb (vb_ne va h.gb (by decide))
      clear h hb
      have h := h2
      clear h2
      clear na_0 na_1 na_2 na_3 na_4 na_5 na_6 na_7 na_8
      go_upto_region 12 with fail
      have hN := new_seg9 w4 (2) (0) (3) (12) (0) (B) 0 0 none 0 0
      have h2 := h.below hN.2
      clear h
      have h := h2
      clear h2
      replace va := va.below hN.2 va.lt
      obtain ⟨zb, hz⟩ : ∃ x, x = w4.heap.size := ⟨_, rfl⟩
      rw [← hz] at hN ⊢
      have HZb := Kp.mk hz
      clear hz
      have vb := hN.1
      clear hN
      generalize w4.alloc (.cells #[.int .i64 2, .int .i64 0, .int .i64 3, .int .i64 12, .int .i64 0, .int .i64 B, .int .i64 0, .int .i64 0, .slice none 0 0] 31) = w5 at *
      obtain ⟨nb_0, nb_1, nb_2, nb_3, nb_4, nb_5, nb_6, nb_7, nb_8⟩ := seg_nine vb
      go_wp2_with fail
      refine (h.tHi (by omega) (by have := HK.out; omega)).mono ?_
      rintro e w6 ⟨rfl, h2, hb⟩
      replace va := va.grown hb (vb_ne va h.cb (by decide))
      replace vb := vb.grown hb (vb_ne vb h.cb (by decide))
      clear h hb
      have h := h2
      clear h2
      clear nb_0 nb_1 nb_2 nb_3 nb_4 nb_5 nb_6 nb_7 nb_8
      clear va
      clear vb
      go_wp2_with fail
      rw [rounds_succ]
      go_wp2_with fail
      refine (h.says2).mono ?_
      rintro e w7 ⟨rfl, h2, hb⟩
      clear h hb
      have h := h2
      clear h2
      go_upto_region 11 with fail
      have hN := new_seg9 w7 (3) (3) (0) (12) (X) (B) 0 0 none 0 0
      have h2 := h.below hN.2
      clear h
      have h := h2
      clear h2
      obtain ⟨zc, hz⟩ : ∃ x, x = w7.heap.size := ⟨_, rfl⟩
      rw [← hz] at hN ⊢
      have HZc := Kp.mk hz
      clear hz
      have vc := hN.1
      clear hN
      generalize w7.alloc (.cells #[.int .i64 3, .int .i64 3, .int .i64 0, .int .i64 12, .int .i64 X, .int .i64 B, .int .i64 0, .int .i64 0, .slice none 0 0] 31) = w8 at *
      obtain ⟨nc_0, nc_1, nc_2, nc_3, nc_4, nc_5, nc_6, nc_7, nc_8⟩ := seg_nine vc
      go_wp2_with fail
      refine (h.gLate X (by omega) (by have := HK.out; omega) (by have := HK.out; omega) (by have := HK.out; omega)).mono ?_
      rintro e w9 ⟨rfl, h2, hb⟩
      replace vc := vc.grown hb (vb_ne vc h.gb (by decide))
      clear h hb
      have h := h2
      clear h2
      clear nc_0 nc_1 nc_2 nc_3 nc_4 nc_5 nc_6 nc_7 nc_8
      clear vc
      go_upto_region 12 with fail
      have hN := new_seg9 w9 (0) (0) (0) (0) (0) (0) 0 0 none 0 0
      have h2 := h.below hN.2
      clear h
      have h := h2
      clear h2
      obtain ⟨zd, hz⟩ : ∃ x, x = w9.heap.size := ⟨_, rfl⟩
      rw [← hz] at hN ⊢
      have HZd := Kp.mk hz
      clear hz
      have vd := hN.1
      clear hN
      generalize w9.alloc (.cells #[.int .i64 0, .int .i64 0, .int .i64 0, .int .i64 0, .int .i64 0, .int .i64 0, .int .i64 0, .int .i64 0, .slice none 0 0] 31) = w10 at *
      clear vd
      go_wp2_with fail
      rw [rounds_succ]
      go_wp2_with fail
      refine (h.open_).mono ?_
      rintro e wx ⟨rfl, hw⟩
      replace hw := hw.symm
      subst hw
      rw [show (2 == (3 : Int)) = false from rfl]
      go_wp2_with fail
      refine (h.epoch).mono ?_
      rintro e wx ⟨rfl, hw⟩
      replace hw := hw.symm
      subst hw
      have HO := Kp.mk h.old
      clear h
      go_wp2_with fail
      all_goals (refine (worksH_any _).mono ?_; rintro e wz ⟨rfl, hbz⟩; go_wp2_with fail; go_ret; exact ⟨rfl, HO.out.trans (hbz.mono HO.out.size)⟩)
  · have h1 : H = 0 := by have := HK.out; omega
    subst h1
    clear h0
    have h2 : (0 : Int) ≤ X := by have := HK.out; omega
    go_wp2_with fail
    refine wp_loop_rounds 3 ?_
    rw [rounds_succ]
    go_wp2_with fail
    refine (h.says1).mono ?_
    rintro e w1 ⟨rfl, h2, hb⟩
    clear h hb
    have h := h2
    clear h2
    go_upto_region 11 with fail
    have hN := new_seg9 w1 (1) (3) (0) (12) (0) (0) 0 0 none 0 0
    have h2 := h.below hN.2
    clear h
    have h := h2
    clear h2
    obtain ⟨za, hz⟩ : ∃ x, x = w1.heap.size := ⟨_, rfl⟩
    rw [← hz] at hN ⊢
    have HZa := Kp.mk hz
    clear hz
    have va := hN.1
    clear hN
    generalize w1.alloc (.cells #[.int .i64 1, .int .i64 3, .int .i64 0, .int .i64 12, .int .i64 0, .int .i64 0, .int .i64 0, .int .i64 0, .slice none 0 0] 31) = w2 at *
    obtain ⟨na_0, na_1, na_2, na_3, na_4, na_5, na_6, na_7, na_8⟩ := seg_nine va
    go_wp2_with fail
    refine (h.gHello (by omega)).mono ?_
    rintro e w3 ⟨rfl, h2, hb⟩
    replace va := va.grown hb (vb_ne va h.gb (by decide))
    clear h hb
    have h := h2
    clear h2
    clear na_0 na_1 na_2 na_3 na_4 na_5 na_6 na_7 na_8
    go_upto_region 12 with fail
    have hN := new_seg9 w3 (2) (0) (3) (12) (0) (B) 0 0 none 0 0
    have h2 := h.below hN.2
    clear h
    have h := h2
    clear h2
    replace va := va.below hN.2 va.lt
    obtain ⟨zb, hz⟩ : ∃ x, x = w3.heap.size := ⟨_, rfl⟩
    rw [← hz] at hN ⊢
    have HZb := Kp.mk hz
    clear hz
    have vb := hN.1
    clear hN
    generalize w3.alloc (.cells #[.int .i64 2, .int .i64 0, .int .i64 3, .int .i64 12, .int .i64 0, .int .i64 B, .int .i64 0, .int .i64 0, .slice none 0 0] 31) = w4 at *
    obtain ⟨nb_0, nb_1, nb_2, nb_3, nb_4, nb_5, nb_6, nb_7, nb_8⟩ := seg_nine vb
    go_wp2_with fail
    refine (h.tHi (by omega) (by have := HK.out; omega)).mono ?_
    rintro e w5 ⟨rfl, h2, hb⟩
    replace va := va.grown hb (vb_ne va h.cb (by decide))
    replace vb := vb.grown hb (vb_ne vb h.cb (by decide))
    clear h hb
    have h := h2
    clear h2
    clear nb_0 nb_1 nb_2 nb_3 nb_4 nb_5 nb_6 nb_7 nb_8
    clear va
    clear vb
    go_wp2_with fail
    rw [rounds_succ]
    go_wp2_with fail
    refine (h.says2).mono ?_
    rintro e w6 ⟨rfl, h2, hb⟩
    clear h hb
    have h := h2
    clear h2
    go_upto_region 11 with fail
    have hN := new_seg9 w6 (3) (3) (0) (12) (X) (B) 0 0 none 0 0
    have h2 := h.below hN.2
    clear h
    have h := h2
    clear h2
    obtain ⟨zc, hz⟩ : ∃ x, x = w6.heap.size := ⟨_, rfl⟩
    rw [← hz] at hN ⊢
    have HZc := Kp.mk hz
    clear hz
    have vc := hN.1
    clear hN
    generalize w6.alloc (.cells #[.int .i64 3, .int .i64 3, .int .i64 0, .int .i64 12, .int .i64 X, .int .i64 B, .int .i64 0, .int .i64 0, .slice none 0 0] 31) = w7 at *
    obtain ⟨nc_0, nc_1, nc_2, nc_3, nc_4, nc_5, nc_6, nc_7, nc_8⟩ := seg_nine vc
    obtain ⟨Bb, hBb⟩ : ∃ x, decide ((0 : Int) < X) = x := ⟨_, rfl⟩
    go_wp2_with fail
    refine (h.gSyn X (by omega) (by have := HK.out; omega) (by have := HK.out; omega) (by have := HK.out; omega) (B := Bb) hBb).mono ?_
    rintro e w8 ⟨rfl, h2, hb⟩
    replace vc := vc.grown hb (vb_ne vc h.gb (by decide))
    clear h hb
    have h := h2
    clear h2
    clear nc_0 nc_1 nc_2 nc_3 nc_4 nc_5 nc_6 nc_7 nc_8
    clear vc
    go_upto_region 12 with fail
    have hN := new_seg9 w8 (4) (0) (3) (12) (X) (0) 0 0 none 0 0
    have h2 := h.below hN.2
    clear h
    have h := h2
    clear h2
    obtain ⟨zd, hz⟩ : ∃ x, x = w8.heap.size := ⟨_, rfl⟩
    rw [← hz] at hN ⊢
    have HZd := Kp.mk hz
    clear hz
    have vd := hN.1
    clear hN
    generalize w8.alloc (.cells #[.int .i64 4, .int .i64 0, .int .i64 3, .int .i64 12, .int .i64 X, .int .i64 0, .int .i64 0, .int .i64 0, .slice none 0 0] 31) = w9 at *
    obtain ⟨nd_0, nd_1, nd_2, nd_3, nd_4, nd_5, nd_6, nd_7, nd_8⟩ := seg_nine vd
    go_wp2_with fail
    refine (h.tAck (by omega) (by have := HK.out; omega)).mono ?_
    rintro e w10 ⟨rfl, h2, hb⟩
    replace vd := vd.grown hb (vb_ne vd h.cb (by decide))
    clear h hb
    have h := h2
    clear h2
    clear nd_0 nd_1 nd_2 nd_3 nd_4 nd_5 nd_6 nd_7 nd_8
    clear vd
    go_wp2_with fail
    rw [rounds_succ]
    go_wp2_with fail
    refine (h.open_).mono ?_
    rintro e wx ⟨rfl, hw⟩
    replace hw := hw.symm
    subst hw
    rw [show (3 == (3 : Int)) = true from rfl]
    go_wp2_with fail
    refine (h.epoch).mono ?_
    rintro e wx ⟨rfl, hw⟩
    replace hw := hw.symm
    subst hw
    have HO := Kp.mk h.old
    clear h
    go_wp2_with fail
    all_goals (refine (worksH_any _).mono ?_; rintro e wz ⟨rfl, hbz⟩; go_wp2_with fail; go_ret; exact ⟨rfl, HO.out.trans (hbz.mono HO.out.size)⟩)
theorem hailLives_walk (a0 b0 c0 : Int) (W : World) (wf : (Lit.int .i64 a0).wf = true) (wf2 : (Lit.int .i64 b0).wf = true) (wf3 : (Lit.int .i64 c0).wf = true) : Calls Try.prog 5 #[.int .i64 a0, .int .i64 b0, .int .i64 c0] W fun e w' => e = .returned (.bool true) ∧ Below W.heap.size W w' := hailLives_any a0 b0 c0 W
end Go.Proofs.Ytomjnpjabfnlbaa.Oct
