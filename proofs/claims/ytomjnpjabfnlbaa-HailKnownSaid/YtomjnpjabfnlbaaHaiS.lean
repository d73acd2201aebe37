/- Layer 16 (hail): step: a segment comes to both calls, or both guests. -/
import Derived.Test.YtomjnpjabfnlbaaHaiT
import Derived.Deep.CutRange
namespace Go.Proofs.Ytomjnpjabfnlbaa.Oct
open Go.RowKit
set_option linter.unusedVariables false
set_option linter.unusedSimpArgs false

/-- Behind the choice of what comes. -/
def StS (W w : World) (X c g d h zs : Nat) (tz e b q sf bo E : Int) (y : Sv) (s6 : Value) (wx : World) : Prop := ∃ (B : Bool) (x : Sv), s6 = .bool B ∧ Kp (EN W wx X c g d h tz e b q b q sf bo E E y) ∧ Kp (Vb 31 wx zs x.cells) ∧ Kp (Sk w wx)
def StA (W w : World) (X c g d h zs zd : Nat) (tz e b q sf bo E : Int) (y : Sv) (ds : List Value) (s5 s6 : Value) (wx : World) : Prop := s5 = .pointer (some ⟨zs, 0, none⟩) ∧ s6 = .bool false ∧ Kp (EN W wx X c g d h tz e b q b q sf bo E E y) ∧ Kp (Vb 47 wx zd ds) ∧ Kp (Sk w wx)
section
variable {W w w' : World} {X c g d h : Nat} {tz e b q sf bo E : Int} {y : Sv}
theorem EN.last {b2 q2 E2 : Int} (k : EN W w X c g d h tz e b q b2 q2 sf bo E E2 y) : w.cell? ⟨X, 4, none⟩ = some (.int .i64 y.k) ∧ w.cell? ⟨X, 5, none⟩ = some (.int .i64 y.t) ∧ w.cell? ⟨X, 6, none⟩ = some (.int .i64 y.f) ∧ w.cell? ⟨X, 7, none⟩ = some (.int .i64 y.h) ∧ w.cell? ⟨X, 8, none⟩ = some (.int .i64 y.p) ∧ w.cell? ⟨X, 9, none⟩ = some (.int .i64 y.o) ∧ w.cell? ⟨X, 10, none⟩ = some (.int .i64 y.s) ∧ w.cell? ⟨X, 11, none⟩ = some (.int .i64 y.a) ∧ w.cell? ⟨X, 12, none⟩ = some (.slice y.A y.n y.c) :=
  ⟨Vb.cell k.en 4 rfl, Vb.cell k.en 5 rfl, Vb.cell k.en 6 rfl, Vb.cell k.en 7 rfl, Vb.cell k.en 8 rfl, Vb.cell k.en 9 rfl, Vb.cell k.en 10 rfl, Vb.cell k.en 11 rfl, Vb.cell k.en 12 rfl⟩
set_option maxRecDepth 100000 in
set_option maxHeartbeats 20000000 in
theorem step_any (k : EN W w X c g d h tz e b q b q sf bo E E y) (kk nk : Int) (x : Sv) : Calls Try.prog 13 #[.pointer (some ⟨X, 0, none⟩), .agg #[.int .i64 kk, .int .i64 nk, .int .i64 x.k, .int .i64 x.t, .int .i64 x.f, .int .i64 x.h, .int .i64 x.p, .int .i64 x.o, .int .i64 x.s, .int .i64 x.a, .slice x.A x.n x.c]] w fun en w' => en = .returned (.bool true) ∧ (∃ (b' q' E' : Int) (y' : Sv), EN W w' X c g d h tz e b' q' b' q' sf bo E' E' y') ∧ Sk w w' := by
  obtain ⟨sk, st, sf_, sh, sp, so, ss, sa, sA, sn, sc⟩ := x
  simp only []
  have HD := Kp.mk (And.intro (Vb.new 47 w [.int .i64 kk, .int .i64 nk, .int .i64 sk, .int .i64 st, .int .i64 sf_, .int .i64 sh, .int .i64 sp, .int .i64 so, .int .i64 ss, .int .i64 sa, .slice sA sn sc]) (below_alloc w (.cells #[.int .i64 kk, .int .i64 nk, .int .i64 sk, .int .i64 st, .int .i64 sf_, .int .i64 sh, .int .i64 sp, .int .i64 so, .int .i64 ss, .int .i64 sa, .slice sA sn sc] 47)))
  have HK := Kp.mk (k.below HD.out.2)
  have HKK := Kp.mk ((Sk.refl w).below HD.out.2)
  have HW := Kp.mk k.cg.old.size
  clear k
  go_enter Try.func13, Try.ntmps13
  go_upto_region 1 with fail
  generalize w.alloc (.cells #[.int .i64 kk, .int .i64 nk, .int .i64 sk, .int .i64 st, .int .i64 sf_, .int .i64 sh, .int .i64 sp, .int .i64 so, .int .i64 ss, .int .i64 sa, .slice sA sn sc] 47) = w1 at *
  obtain ⟨zd, hzd⟩ : ∃ z, z = w.heap.size := ⟨_, rfl⟩
  rw [← hzd] at HD ⊢
  have HZD := Kp.mk hzd
  clear hzd
  obtain ⟨zs, hzs⟩ : ∃ z, z = w1.heap.size := ⟨_, rfl⟩
  have HZS := Kp.mk (show w.heap.size ≤ zs by rw [hzs]; exact HD.out.2.size)
  have HZX := Kp.mk hzs
  have c2 := HD.out.1.cell 2 rfl
  have c3 := HD.out.1.cell 3 rfl
  have c4 := HD.out.1.cell 4 rfl
  have c5 := HD.out.1.cell 5 rfl
  have c6 := HD.out.1.cell 6 rfl
  have c7 := HD.out.1.cell 7 rfl
  have c8 := HD.out.1.cell 8 rfl
  have c9 := HD.out.1.cell 9 rfl
  have c10 := HD.out.1.cell 10 rfl
  clear hzs
  rename_i K10 h10
  go_cut [5, 6] from 17 to 18 (fun s5 s6 wx => StA W w X c g d h zs zd tz e b q sf bo E y [.int .i64 kk, .int .i64 nk, .int .i64 sk, .int .i64 st, .int .i64 sf_, .int .i64 sh, .int .i64 sp, .int .i64 so, .int .i64 ss, .int .i64 sa, .slice sA sn sc] s5 s6 wx ∧ Vb 31 wx zs [.int .i64 sk, .int .i64 st, .int .i64 sf_, .int .i64 sh, .int .i64 sp, .int .i64 so, .int .i64 ss, .int .i64 sa, .slice sA sn sc])
  case first =>
    have hN := new_seg9 w1 sk st sf_ sh sp so ss sa sA sn sc
    have H1 := Kp.mk (HK.out.below hN.2)
    have H2 := Kp.mk (HD.out.1.below hN.2 HD.out.1.lt)
    have H3 := Kp.mk (HKK.out.below hN.2)
    rw [← HZX.out] at hN
    have HV := Kp.mk hN.1
    clear hN
    go_wp2_with fail
    rw [← HZX.out]
    go_meet
    case rel => exact ⟨⟨rfl, rfl, H1, H2, H3⟩, HV.out⟩
  obtain ⟨⟨rfl, rfl, K1, KD, KS⟩, v5⟩ := hcut
  clear c2 c3 c4 c5 c6 c7 c8 c9 c10 HK HKK HD HZX
  refine h10 _ _ ?_
  apply wp_seq_k
  intro K3 h3
  go_cut [6, 7, 8, 9, 10] from 19 to 83 (fun s6 _ _ _ _ wx => StS W w X c g d h zs tz e b q sf bo E y s6 wx)
  case first =>
    have c0 := KD.out.cell 0 rfl
    have hbr := Ser.bring_any kk 6 wc (by omega) (by omega)
    have hbd := Ser.bringP_bd kk 6 (by omega)
    generalize Ser.bringP kk 6 = aa at *
    have ha : aa = 0 ∨ aa = 1 ∨ aa = 2 ∨ aa = 3 ∨ aa = 4 ∨ aa = 5 := by omega
    clear hbd
    rcases ha with rfl | rfl | rfl | rfl | rfl | rfl
    · skip
      have HV := Kp.mk v5
      clear v5
      go_wp2_with fail
      refine hbr.mono ?_
      rintro en w5 ⟨rfl, hw5⟩
      subst hw5
      clear hbr
      clear c0
      go_wp2_with fail
      go_meet
      case rel => exact ⟨true, ⟨sk, st, sf_, sh, sp, so, ss, sa, sA, sn, sc⟩, rfl, K1, HV, KS⟩
    · skip
      have HV := Kp.mk v5
      clear v5
      go_wp2_with fail
      refine hbr.mono ?_
      rintro en w5 ⟨rfl, hw5⟩
      subst hw5
      clear hbr
      clear c0
      go_wp2_with fail
      go_meet
      case rel => exact ⟨false, ⟨sk, st, sf_, sh, sp, so, ss, sa, sA, sn, sc⟩, rfl, K1, HV, KS⟩
    · skip
      go_upto_region 6 with (refine hbr.mono ?_; rintro en w5 ⟨rfl, hw5⟩; subst hw5)
      clear c0 hbr
      have hS0 : (fun Y : World => EN W Y X c g d h tz e b q b q sf bo E E y ∧ Vb 47 Y zd [.int .i64 kk, .int .i64 nk, .int .i64 sk, .int .i64 st, .int .i64 sf_, .int .i64 sh, .int .i64 sp, .int .i64 so, .int .i64 ss, .int .i64 sa, .slice sA sn sc]) wc.drew := ⟨K1.out.below (Below.refl _ _).drew, KD.out.below (Below.refl _ _).drew KD.out.lt⟩
      have hv0 := v5.below (Below.refl _ _).drew v5.lt
      have hk0 := KS.out.below (Below.refl _ _).drew
      clear v5 K1 KD KS
      refine wp_region_held_drew (S := fun Y : World => EN W Y X c g d h tz e b q b q sf bo E E y ∧ Vb 47 Y zd [.int .i64 kk, .int .i64 nk, .int .i64 sk, .int .i64 st, .int .i64 sf_, .int .i64 sh, .int .i64 sp, .int .i64 so, .int .i64 ss, .int .i64 sa, .slice sA sn sc]) (by kernel_rfl) hS0 (fun _ => ?_)
      generalize wc.drew = w3 at *
      refine takeD (i := 0) (v := .pointer (some ⟨X, 0, none⟩)) (some 26) rfl rfl (by kernel_rfl) (by kernel_rfl) (by kernel_rfl) (fun _ _ _ h => h) (Or.inl ⟨by rfl, ?_⟩) hS0 ?_
      · rintro w' hq
        go_simp
      try simp only [Act.put, List.setIfInBounds_toArray, List.set_cons_zero, List.set_cons_succ]
      refine takeD (i := 1) (v := .pointer (some ⟨zd, 1, none⟩)) (some 27) rfl rfl (by kernel_rfl) (by kernel_rfl) (by kernel_rfl) (fun _ _ _ h => h) (Or.inl ⟨by rfl, ?_⟩) hS0 ?_
      · rintro w' hq
        go_simp
      try simp only [Act.put, List.setIfInBounds_toArray, List.set_cons_zero, List.set_cons_succ]
      refine takeD (i := 2) (v := .int .i64 nk) (some 28) rfl rfl (by kernel_rfl) (by kernel_rfl) (by kernel_rfl) (fun _ _ _ h => h) (Or.inl ⟨by rfl, ?_⟩) hS0 ?_
      · rintro w' hq
        have x1 := hq.2.cell 1 rfl
        go_simp
      try simp only [Act.put, List.setIfInBounds_toArray, List.set_cons_zero, List.set_cons_succ]
      refine takeD (i := 3) (v := .pointer (some ⟨X, 0, none⟩)) (some 29) rfl rfl (by kernel_rfl) (by kernel_rfl) (by kernel_rfl) (fun _ _ _ h => h) (Or.inl ⟨by rfl, ?_⟩) hS0 ?_
      · rintro w' hq
        go_simp
      try simp only [Act.put, List.setIfInBounds_toArray, List.set_cons_zero, List.set_cons_succ]
      refine takeD (i := 4) (v := .pointer (some ⟨X, 0, none⟩)) (some 30) rfl rfl (by kernel_rfl) (by kernel_rfl) (by kernel_rfl) (fun _ _ _ h => h) (Or.inl ⟨by rfl, ?_⟩) hS0 ?_
      · rintro w' hq
        go_simp
      try simp only [Act.put, List.setIfInBounds_toArray, List.set_cons_zero, List.set_cons_succ]
      refine takeD (i := 5) (v := .pointer (some ⟨X, 2, none⟩)) (some 31) rfl rfl (by kernel_rfl) (by kernel_rfl) (by kernel_rfl) (fun _ _ _ h => h) (Or.inl ⟨by rfl, ?_⟩) hS0 ?_
      · rintro w' hq
        go_simp
      try simp only [Act.put, List.setIfInBounds_toArray, List.set_cons_zero, List.set_cons_succ]
      refine takeD (i := 6) (v := .pointer (some ⟨d, 0, none⟩)) (some 32) rfl rfl (by kernel_rfl) (by kernel_rfl) (by kernel_rfl) (fun _ _ _ h => h) (Or.inl ⟨by rfl, ?_⟩) hS0 ?_
      · rintro w' hq
        obtain ⟨x0, x1, x2, x3, x4, x5, x6, x7⟩ := hq.1.cells
        go_simp
      try simp only [Act.put, List.setIfInBounds_toArray, List.set_cons_zero, List.set_cons_succ]
      refine takeD (i := 7) (v := .pointer (some ⟨d, 0, none⟩)) (some 33) rfl rfl (by kernel_rfl) (by kernel_rfl) (by kernel_rfl) (fun _ _ _ h => h) (Or.inl ⟨by rfl, ?_⟩) hS0 ?_
      · rintro w' hq
        go_simp
      try simp only [Act.put, List.setIfInBounds_toArray, List.set_cons_zero, List.set_cons_succ]
      refine takeD (i := 8) (v := .pointer (some ⟨d, 0, none⟩)) (some 34) rfl rfl (by kernel_rfl) (by kernel_rfl) (by kernel_rfl) (fun _ _ _ h => h) (Or.inl ⟨by rfl, ?_⟩) hS0 ?_
      · rintro w' hq
        go_simp
      try simp only [Act.put, List.setIfInBounds_toArray, List.set_cons_zero, List.set_cons_succ]
      refine takeD (i := 9) (v := .int .i64 tz) (some 35) rfl rfl (by kernel_rfl) (by kernel_rfl) (by kernel_rfl) (fun _ _ _ h => h) (Or.inl ⟨by rfl, ?_⟩) hS0 ?_
      · rintro w' hq
        obtain ⟨x0, x1, x2, x3, x4, x5, x6, x7⟩ := hq.1.cells
        go_simp
      try simp only [Act.put, List.setIfInBounds_toArray, List.set_cons_zero, List.set_cons_succ]
      refine wpAnyH_ready (rs := [10]) (by kernel_rfl) (by simp) ?_
      refine AllReadyH.cons rfl (fun K hK => ?_) AllReadyH.nil
      try rw [if_pos (by rfl)]
      go_simp
      refine (near_any hS0.1 _ _ _).mono ?_
      rintro en u1 ⟨y1, rfl, hb1⟩
      have hS1 : (fun Y : World => EN W Y X c g d h tz e b q b q sf bo E E y ∧ Vb 47 Y zd [.int .i64 kk, .int .i64 nk, .int .i64 sk, .int .i64 st, .int .i64 sf_, .int .i64 sh, .int .i64 sp, .int .i64 so, .int .i64 ss, .int .i64 sa, .slice sA sn sc]) u1 := ⟨hS0.1.below hb1, hS0.2.below hb1 hS0.2.lt⟩
      have hv1 := hv0.below hb1 hv0.lt
      have hk1 := hk0.below hb1
      refine hK.out _ _ hS1 (fun _ => ?_)
      clear hK K hS0 hb1 hv0 hk0
      try simp only [Act.put, List.setIfInBounds_toArray, List.set_cons_zero, List.set_cons_succ]
      refine wpAnyH_ready (rs := [11]) (by kernel_rfl) (by simp) ?_
      refine AllReadyH.cons rfl (fun K hK => ?_) AllReadyH.nil
      try rw [if_pos (by rfl)]
      refine wp_store_vbH (vs := y1.cells) none rfl (.tmp 5) (.tmp 36) rfl rfl rfl hv1 rfl agg_seg rfl ?_
      intro u2 hv2 hg2 hz2
      have hS2 : (fun Y : World => EN W Y X c g d h tz e b q b q sf bo E E y ∧ Vb 47 Y zd [.int .i64 kk, .int .i64 nk, .int .i64 sk, .int .i64 st, .int .i64 sf_, .int .i64 sh, .int .i64 sp, .int .i64 so, .int .i64 ss, .int .i64 sa, .slice sA sn sc]) u2 := ⟨hS1.1.seg hv1 hg2 (Nat.le_trans HW.out HZS.out), hS1.2.grown hg2 (vb_ne hS1.2 hv1 (by decide))⟩
      have hk2 := hk1.new HZS.out hg2
      refine hK.out _ _ hS2 (fun _ => ?_)
      clear hK K
      try simp only [Act.put, List.setIfInBounds_toArray, List.set_cons_zero, List.set_cons_succ]
      refine wpAnyH_done (by kernel_rfl) ?_ _
      have H1 := Kp.mk hS2.1
      have H2 := Kp.mk hv2
      have H3 := Kp.mk hk2
      clear hS1 hS2 hv1 hv2 hk1 hk2 hg2 hz2
      go_wp2_with fail
      go_meet
      case rel => exact ⟨true, y1, rfl, H1, H2, H3⟩
    · skip
      go_upto_region 9 with (refine hbr.mono ?_; rintro en w5 ⟨rfl, hw5⟩; subst hw5)
      clear c0 hbr
      have hS0 : (fun Y : World => EN W Y X c g d h tz e b q b q sf bo E E y ∧ Vb 47 Y zd [.int .i64 kk, .int .i64 nk, .int .i64 sk, .int .i64 st, .int .i64 sf_, .int .i64 sh, .int .i64 sp, .int .i64 so, .int .i64 ss, .int .i64 sa, .slice sA sn sc]) wc.drew := ⟨K1.out.below (Below.refl _ _).drew, KD.out.below (Below.refl _ _).drew KD.out.lt⟩
      have hv0 := v5.below (Below.refl _ _).drew v5.lt
      have hk0 := KS.out.below (Below.refl _ _).drew
      clear v5 K1 KD KS
      refine wp_region_held_drew (S := fun Y : World => EN W Y X c g d h tz e b q b q sf bo E E y ∧ Vb 47 Y zd [.int .i64 kk, .int .i64 nk, .int .i64 sk, .int .i64 st, .int .i64 sf_, .int .i64 sh, .int .i64 sp, .int .i64 so, .int .i64 ss, .int .i64 sa, .slice sA sn sc]) (by kernel_rfl) hS0 (fun _ => ?_)
      generalize wc.drew = w3 at *
      refine takeD (i := 0) (v := .pointer (some ⟨X, 0, none⟩)) (some 39) rfl rfl (by kernel_rfl) (by kernel_rfl) (by kernel_rfl) (fun _ _ _ h => h) (Or.inl ⟨by rfl, ?_⟩) hS0 ?_
      · rintro w' hq
        go_simp
      try simp only [Act.put, List.setIfInBounds_toArray, List.set_cons_zero, List.set_cons_succ]
      refine takeD (i := 1) (v := .pointer (some ⟨zd, 1, none⟩)) (some 40) rfl rfl (by kernel_rfl) (by kernel_rfl) (by kernel_rfl) (fun _ _ _ h => h) (Or.inl ⟨by rfl, ?_⟩) hS0 ?_
      · rintro w' hq
        go_simp
      try simp only [Act.put, List.setIfInBounds_toArray, List.set_cons_zero, List.set_cons_succ]
      refine takeD (i := 2) (v := .int .i64 nk) (some 41) rfl rfl (by kernel_rfl) (by kernel_rfl) (by kernel_rfl) (fun _ _ _ h => h) (Or.inl ⟨by rfl, ?_⟩) hS0 ?_
      · rintro w' hq
        have x1 := hq.2.cell 1 rfl
        go_simp
      try simp only [Act.put, List.setIfInBounds_toArray, List.set_cons_zero, List.set_cons_succ]
      refine takeD (i := 3) (v := .pointer (some ⟨X, 0, none⟩)) (some 42) rfl rfl (by kernel_rfl) (by kernel_rfl) (by kernel_rfl) (fun _ _ _ h => h) (Or.inl ⟨by rfl, ?_⟩) hS0 ?_
      · rintro w' hq
        go_simp
      try simp only [Act.put, List.setIfInBounds_toArray, List.set_cons_zero, List.set_cons_succ]
      refine takeD (i := 4) (v := .pointer (some ⟨X, 0, none⟩)) (some 43) rfl rfl (by kernel_rfl) (by kernel_rfl) (by kernel_rfl) (fun _ _ _ h => h) (Or.inl ⟨by rfl, ?_⟩) hS0 ?_
      · rintro w' hq
        go_simp
      try simp only [Act.put, List.setIfInBounds_toArray, List.set_cons_zero, List.set_cons_succ]
      refine takeD (i := 5) (v := .pointer (some ⟨X, 3, none⟩)) (some 44) rfl rfl (by kernel_rfl) (by kernel_rfl) (by kernel_rfl) (fun _ _ _ h => h) (Or.inl ⟨by rfl, ?_⟩) hS0 ?_
      · rintro w' hq
        go_simp
      try simp only [Act.put, List.setIfInBounds_toArray, List.set_cons_zero, List.set_cons_succ]
      refine takeD (i := 6) (v := .pointer (some ⟨h, 0, none⟩)) (some 45) rfl rfl (by kernel_rfl) (by kernel_rfl) (by kernel_rfl) (fun _ _ _ h => h) (Or.inl ⟨by rfl, ?_⟩) hS0 ?_
      · rintro w' hq
        obtain ⟨x0, x1, x2, x3, x4, x5, x6, x7⟩ := hq.1.cells
        go_simp
      try simp only [Act.put, List.setIfInBounds_toArray, List.set_cons_zero, List.set_cons_succ]
      refine takeD (i := 7) (v := .pointer (some ⟨h, 0, none⟩)) (some 46) rfl rfl (by kernel_rfl) (by kernel_rfl) (by kernel_rfl) (fun _ _ _ h => h) (Or.inl ⟨by rfl, ?_⟩) hS0 ?_
      · rintro w' hq
        go_simp
      try simp only [Act.put, List.setIfInBounds_toArray, List.set_cons_zero, List.set_cons_succ]
      refine takeD (i := 8) (v := .pointer (some ⟨h, 0, none⟩)) (some 47) rfl rfl (by kernel_rfl) (by kernel_rfl) (by kernel_rfl) (fun _ _ _ h => h) (Or.inl ⟨by rfl, ?_⟩) hS0 ?_
      · rintro w' hq
        go_simp
      try simp only [Act.put, List.setIfInBounds_toArray, List.set_cons_zero, List.set_cons_succ]
      refine takeD (i := 9) (v := .int .i64 sf) (some 48) rfl rfl (by kernel_rfl) (by kernel_rfl) (by kernel_rfl) (fun _ _ _ h => h) (Or.inl ⟨by rfl, ?_⟩) hS0 ?_
      · rintro w' hq
        obtain ⟨x0, x1, x2, x3, x4, x5, x6, x7⟩ := hq.1.cells
        go_simp
      try simp only [Act.put, List.setIfInBounds_toArray, List.set_cons_zero, List.set_cons_succ]
      refine wpAnyH_ready (rs := [10]) (by kernel_rfl) (by simp) ?_
      refine AllReadyH.cons rfl (fun K hK => ?_) AllReadyH.nil
      try rw [if_pos (by rfl)]
      go_simp
      refine (near_any hS0.1 _ _ _).mono ?_
      rintro en u1 ⟨y1, rfl, hb1⟩
      have hS1 : (fun Y : World => EN W Y X c g d h tz e b q b q sf bo E E y ∧ Vb 47 Y zd [.int .i64 kk, .int .i64 nk, .int .i64 sk, .int .i64 st, .int .i64 sf_, .int .i64 sh, .int .i64 sp, .int .i64 so, .int .i64 ss, .int .i64 sa, .slice sA sn sc]) u1 := ⟨hS0.1.below hb1, hS0.2.below hb1 hS0.2.lt⟩
      have hv1 := hv0.below hb1 hv0.lt
      have hk1 := hk0.below hb1
      refine hK.out _ _ hS1 (fun _ => ?_)
      clear hK K hS0 hb1 hv0 hk0
      try simp only [Act.put, List.setIfInBounds_toArray, List.set_cons_zero, List.set_cons_succ]
      refine wpAnyH_ready (rs := [11]) (by kernel_rfl) (by simp) ?_
      refine AllReadyH.cons rfl (fun K hK => ?_) AllReadyH.nil
      try rw [if_pos (by rfl)]
      refine wp_store_vbH (vs := y1.cells) none rfl (.tmp 5) (.tmp 49) rfl rfl rfl hv1 rfl agg_seg rfl ?_
      intro u2 hv2 hg2 hz2
      have hS2 : (fun Y : World => EN W Y X c g d h tz e b q b q sf bo E E y ∧ Vb 47 Y zd [.int .i64 kk, .int .i64 nk, .int .i64 sk, .int .i64 st, .int .i64 sf_, .int .i64 sh, .int .i64 sp, .int .i64 so, .int .i64 ss, .int .i64 sa, .slice sA sn sc]) u2 := ⟨hS1.1.seg hv1 hg2 (Nat.le_trans HW.out HZS.out), hS1.2.grown hg2 (vb_ne hS1.2 hv1 (by decide))⟩
      have hk2 := hk1.new HZS.out hg2
      refine hK.out _ _ hS2 (fun _ => ?_)
      clear hK K
      try simp only [Act.put, List.setIfInBounds_toArray, List.set_cons_zero, List.set_cons_succ]
      refine wpAnyH_done (by kernel_rfl) ?_ _
      have H1 := Kp.mk hS2.1
      have H2 := Kp.mk hv2
      have H3 := Kp.mk hk2
      clear hS1 hS2 hv1 hv2 hk1 hk2 hg2 hz2
      go_wp2_with fail
      go_meet
      case rel => exact ⟨false, y1, rfl, H1, H2, H3⟩
    · skip
      go_upto_region 11 with (refine hbr.mono ?_; rintro en w5 ⟨rfl, hw5⟩; subst hw5)
      clear c0 hbr
      obtain ⟨l4, l5, l6, l7, l8, l9, l10, l11, l12⟩ := K1.out.last
      go_upto_region 12 with (refine wpList_store_vb (vs := y.cells) rfl (.tmp 5) (.tmp 55) rfl rfl rfl v5 rfl agg_seg rfl ?_; intro u2 hv2 hg2 hz2)
      have H1 := Kp.mk (K1.out.seg v5 hg2 (Nat.le_trans HW.out HZS.out))
      have H2 := Kp.mk hv2
      have H3 := Kp.mk (KS.out.new HZS.out hg2)
      clear l4 l5 l6 l7 l8 l9 l10 l11 l12 v5 hv2 hg2 hz2 K1 KS
      go_wp2_with fail
      go_meet
      case rel => exact ⟨true, y, rfl, H1, H2, H3⟩
    · skip
      have hR : ∀ Y, EN W Y X c g d h tz e b q b q sf bo E E y → _ := fun Y kY => kY.rsays
      have hE := K1.out
      have hs := KS.out
      clear K1 KS KD
      have hbare := saysC_bare tz e b q
      obtain ⟨x0, x1, x2, x3, x4, x5, x6, x7⟩ := hE.cells
      go_upto_region 14 with (refine hbr.mono ?_; rintro en w5 ⟨rfl, hw5⟩; subst hw5)
      clear c0 hbr
      have hS := hE.says
      generalize saysC tz e b q = yy at *
      generalize (q != 3) = B0 at *
      obtain ⟨yk, yt, yf, yh, yp, yo, ys, ya, yA, yn, yc⟩ := yy
      simp only [Sv.v] at hS hR
      go_wp2_with fail
      refine hS.mono ?_
      rintro en u1 ⟨rfl, h2, hb1⟩
      replace v5 := v5.below hb1 v5.lt
      replace hs := hs.below hb1
      clear hS hE hb1 x0 x1 x2 x3 x4 x5 x6 x7
      have hE := h2
      clear h2
      go_upto_region 15 with fail
      have hN := new_seg9 u1 yk yt yf yh yp yo ys ya yA yn yc
      have h2 := hE.below hN.2
      have hs2 := hs.below hN.2
      replace v5 := v5.below hN.2 v5.lt
      obtain ⟨za, hz⟩ : ∃ z, z = u1.heap.size := ⟨_, rfl⟩
      rw [← hz] at hN ⊢
      have Hza := Kp.mk hz
      have va := hN.1
      clear hz hN hE hs
      have hE := h2
      have hs := hs2
      clear h2 hs2
      generalize u1.alloc (.cells #[.int .i64 yk, .int .i64 yt, .int .i64 yf, .int .i64 yh, .int .i64 yp, .int .i64 yo, .int .i64 ys, .int .i64 ya, .slice yA yn yc] 31) = u2 at *
      obtain ⟨x0, x1, x2, x3, x4, x5, x6, x7⟩ := hE.cells
      go_wp2_with fail
      refine (hR _ hE).mono ?_
      rintro en u3 ⟨rfl, h2, hb1⟩
      replace v5 := v5.below hb1 v5.lt
      replace va := va.below hb1 va.lt
      replace hs := hs.below hb1
      clear hR hE hb1 x0 x1 x2 x3 x4 x5 x6 x7
      have hE := h2
      clear h2
      go_upto_region 16 with fail
      have hN := new_seg9 u3 yk yt yf yh yp yo ys ya yA yn yc
      have h2 := hE.below hN.2
      have hs2 := hs.below hN.2
      replace v5 := v5.below hN.2 v5.lt
      replace va := va.below hN.2 va.lt
      obtain ⟨zb, hz⟩ : ∃ z, z = u3.heap.size := ⟨_, rfl⟩
      rw [← hz] at hN ⊢
      have Hzb := Kp.mk hz
      have vb := hN.1
      clear hz hN hE hs
      have hE := h2
      have hs := hs2
      clear h2 hs2
      generalize u3.alloc (.cells #[.int .i64 yk, .int .i64 yt, .int .i64 yf, .int .i64 yh, .int .i64 yp, .int .i64 yo, .int .i64 ys, .int .i64 ya, .slice yA yn yc] 31) = u4 at *
      obtain ⟨n0, n1, n2, n3, n4, n5, n6, n7, n8⟩ := seg_nine va
      obtain ⟨m0, m1, m2, m3, m4, m5, m6, m7, m8⟩ := seg_nine vb
      go_wp2_with fail
      refine (same_self ⟨yk, yt, yf, yh, yp, yo, ys, ya, yA, yn, yc⟩ hbare _).mono ?_
      rintro en u5 ⟨rfl, hb1⟩
      replace v5 := v5.below hb1 v5.lt
      replace vb := vb.below hb1 vb.lt
      replace hs := hs.below hb1
      have h2 := hE.below hb1
      clear hE hb1 va n0 n1 n2 n3 n4 n5 n6 n7 n8 m0 m1 m2 m3 m4 m5 m6 m7 m8 hbare
      have hE := h2
      clear h2
      obtain ⟨m0, m1, m2, m3, m4, m5, m6, m7, m8⟩ := seg_nine vb
      go_wp2_with (refine wpList_store_vb (vs := [.int .i64 yk, .int .i64 yt, .int .i64 yf, .int .i64 yh, .int .i64 yp, .int .i64 yo, .int .i64 ys, .int .i64 ya, .slice yA yn yc]) rfl (.tmp 5) (.tmp 83) rfl rfl rfl v5 rfl agg_seg rfl ?_; intro u6 hv6 hg6 hz6; clear m0 m1 m2 m3 m4 m5 m6 m7 m8)
      have H1 := Kp.mk (hE.seg v5 hg6 (Nat.le_trans HW.out HZS.out))
      have H2 := Kp.mk hv6
      have H3 := Kp.mk (hs.new HZS.out hg6)
      clear hE v5 vb hs hv6 hg6 hz6
      go_meet
      case rel => exact ⟨false, ⟨yk, yt, yf, yh, yp, yo, ys, ya, yA, yn, yc⟩, rfl, H1, H2, H3⟩
  case rest =>
  obtain ⟨B, x0, rfl, K1, K5, KS⟩ := hcut
  refine h3 _ _ ?_
  obtain ⟨yk, yt, yf, yh, yp, yo, ys, ya, yA, yn, yc⟩ := x0
  replace K5 : Kp (Vb 31 wc zs [.int .i64 yk, .int .i64 yt, .int .i64 yf, .int .i64 yh, .int .i64 yp, .int .i64 yo, .int .i64 ys, .int .i64 ya, .slice yA yn yc]) := K5
  clear KD
  cases B with
  | true =>
    go_upto_region 20 with fail
    have hk := K1.out.below (Below.refl _ _).drew
    have hs := KS.out.below (Below.refl _ _).drew
    have hS0 : (fun Y : World => Ev Y X c g d h y ∧ Vb 31 Y zs [.int .i64 yk, .int .i64 yt, .int .i64 yf, .int .i64 yh, .int .i64 yp, .int .i64 yo, .int .i64 ys, .int .i64 ya, .slice yA yn yc]) wc.drew := ⟨hk.en, K5.out.below (Below.refl _ _).drew K5.out.lt⟩
    clear K1 KS K5
    refine wp_region_held_drew (S := fun Y : World => Ev Y X c g d h y ∧ Vb 31 Y zs [.int .i64 yk, .int .i64 yt, .int .i64 yf, .int .i64 yh, .int .i64 yp, .int .i64 yo, .int .i64 ys, .int .i64 ya, .slice yA yn yc]) (by kernel_rfl) hS0 (fun _ => ?_)
    generalize wc.drew = w3 at *
    refine takeD (i := 0) (v := .pointer (some ⟨X, 0, none⟩)) (some 85) rfl rfl (by kernel_rfl) (by kernel_rfl) (by kernel_rfl) (fun _ _ _ h => h) (Or.inl ⟨by rfl, ?_⟩) hS0 ?_
    · rintro w' hq
      go_simp
    try simp only [Act.put, List.setIfInBounds_toArray, List.set_cons_zero, List.set_cons_succ]
    refine takeD (i := 1) (v := .pointer (some ⟨X, 0, none⟩)) (some 86) rfl rfl (by kernel_rfl) (by kernel_rfl) (by kernel_rfl) (fun _ _ _ h => h) (Or.inl ⟨by rfl, ?_⟩) hS0 ?_
    · rintro w' hq
      go_simp
    try simp only [Act.put, List.setIfInBounds_toArray, List.set_cons_zero, List.set_cons_succ]
    refine takeD (i := 2) (v := .pointer (some ⟨X, 0, none⟩)) (some 87) rfl rfl (by kernel_rfl) (by kernel_rfl) (by kernel_rfl) (fun _ _ _ h => h) (Or.inl ⟨by rfl, ?_⟩) hS0 ?_
    · rintro w' hq
      go_simp
    try simp only [Act.put, List.setIfInBounds_toArray, List.set_cons_zero, List.set_cons_succ]
    refine takeD (i := 3) (v := .pointer (some ⟨c, 0, none⟩)) (some 88) rfl rfl (by kernel_rfl) (by kernel_rfl) (by kernel_rfl) (fun _ _ _ h => h) (Or.inl ⟨by rfl, ?_⟩) hS0 ?_
    · rintro w' hq
      have x1 := Vb.cell hq.1 0 rfl
      go_simp
    try simp only [Act.put, List.setIfInBounds_toArray, List.set_cons_zero, List.set_cons_succ]
    refine takeD (i := 4) (v := .agg #[.int .i64 yk, .int .i64 yt, .int .i64 yf, .int .i64 yh, .int .i64 yp, .int .i64 yo, .int .i64 ys, .int .i64 ya, .slice yA yn yc]) (some 89) rfl rfl (by kernel_rfl) (by kernel_rfl) (by kernel_rfl) (fun _ _ _ h => h) (Or.inl ⟨by rfl, ?_⟩) hS0 ?_
    · rintro w' hq
      obtain ⟨m0, m1, m2, m3, m4, m5, m6, m7, m8⟩ := seg_nine hq.2
      go_simp
    try simp only [Act.put, List.setIfInBounds_toArray, List.set_cons_zero, List.set_cons_succ]
    refine takeD (i := 6) (v := .pointer (some ⟨X, 0, none⟩)) (some 91) rfl rfl (by kernel_rfl) (by kernel_rfl) (by kernel_rfl) (fun _ _ _ h => h) (Or.inl ⟨by rfl, ?_⟩) hS0 ?_
    · rintro w' hq
      go_simp
    try simp only [Act.put, List.setIfInBounds_toArray, List.set_cons_zero, List.set_cons_succ]
    refine takeD (i := 7) (v := .pointer (some ⟨X, 0, none⟩)) (some 92) rfl rfl (by kernel_rfl) (by kernel_rfl) (by kernel_rfl) (fun _ _ _ h => h) (Or.inl ⟨by rfl, ?_⟩) hS0 ?_
    · rintro w' hq
      go_simp
    try simp only [Act.put, List.setIfInBounds_toArray, List.set_cons_zero, List.set_cons_succ]
    refine takeD (i := 8) (v := .pointer (some ⟨X, 2, none⟩)) (some 93) rfl rfl (by kernel_rfl) (by kernel_rfl) (by kernel_rfl) (fun _ _ _ h => h) (Or.inl ⟨by rfl, ?_⟩) hS0 ?_
    · rintro w' hq
      go_simp
    try simp only [Act.put, List.setIfInBounds_toArray, List.set_cons_zero, List.set_cons_succ]
    refine takeD (i := 9) (v := .pointer (some ⟨d, 0, none⟩)) (some 94) rfl rfl (by kernel_rfl) (by kernel_rfl) (by kernel_rfl) (fun _ _ _ h => h) (Or.inl ⟨by rfl, ?_⟩) hS0 ?_
    · rintro w' hq
      have x1 := Vb.cell hq.1 2 rfl
      go_simp
    try simp only [Act.put, List.setIfInBounds_toArray, List.set_cons_zero, List.set_cons_succ]
    refine takeD (i := 10) (v := .agg #[.int .i64 yk, .int .i64 yt, .int .i64 yf, .int .i64 yh, .int .i64 yp, .int .i64 yo, .int .i64 ys, .int .i64 ya, .slice yA yn yc]) (some 95) rfl rfl (by kernel_rfl) (by kernel_rfl) (by kernel_rfl) (fun _ _ _ h => h) (Or.inl ⟨by rfl, ?_⟩) hS0 ?_
    · rintro w' hq
      obtain ⟨m0, m1, m2, m3, m4, m5, m6, m7, m8⟩ := seg_nine hq.2
      go_simp
    try simp only [Act.put, List.setIfInBounds_toArray, List.set_cons_zero, List.set_cons_succ]
    refine wpAnyH_ready (rs := [5]) (by kernel_rfl) (by simp) ?_
    refine AllReadyH.cons rfl (fun K hK => ?_) AllReadyH.nil
    try rw [if_pos (by rfl)]
    go_simp
    refine (hk.take ⟨yk, yt, yf, yh, yp, yo, ys, ya, yA, yn, yc⟩).mono ?_
    rintro en u1 ⟨rfl, hk1, hg1⟩
    have hS1 : (fun Y : World => Ev Y X c g d h y ∧ Vb 31 Y zs [.int .i64 yk, .int .i64 yt, .int .i64 yf, .int .i64 yh, .int .i64 yp, .int .i64 yo, .int .i64 ys, .int .i64 ya, .slice yA yn yc]) u1 := ⟨hk1.en, hS0.2.grown hg1 (vb_ne hS0.2 hk.cg.cb (by decide))⟩
    have hs1 := hs.other hk.cg.cb (by decide) hg1
    refine hK.out _ _ hS1 (fun _ => ?_)
    clear hK K
    try simp only [Act.put, List.setIfInBounds_toArray, List.set_cons_zero, List.set_cons_succ]
    refine wpAnyH_ready (rs := [11]) (by kernel_rfl) (by simp) ?_
    refine AllReadyH.cons rfl (fun K hK => ?_) AllReadyH.nil
    try rw [if_pos (by rfl)]
    go_simp
    refine (hk1.rtake ⟨yk, yt, yf, yh, yp, yo, ys, ya, yA, yn, yc⟩).mono ?_
    rintro en u2 ⟨rfl, hk2, hg2⟩
    have hS2 : (fun Y : World => Ev Y X c g d h y ∧ Vb 31 Y zs [.int .i64 yk, .int .i64 yt, .int .i64 yf, .int .i64 yh, .int .i64 yp, .int .i64 yo, .int .i64 ys, .int .i64 ya, .slice yA yn yc]) u2 := ⟨hk2.en, hS1.2.grown hg2 (vb_ne hS1.2 hk1.rc (by decide))⟩
    have hs2 := hs1.other hk1.rc (by decide) hg2
    refine hK.out _ _ hS2 (fun _ => ?_)
    clear hK K
    try simp only [Act.put, List.setIfInBounds_toArray, List.set_cons_zero, List.set_cons_succ]
    refine takeD (i := 12) (v := .bool true) (some 97) rfl rfl (by kernel_rfl) (by kernel_rfl) (by kernel_rfl) (fun _ _ _ h => h) (Or.inl ⟨by rfl, ?_⟩) hS2 ?_
    · rintro w' hq
      go_simp
    try simp only [Act.put, List.setIfInBounds_toArray, List.set_cons_zero, List.set_cons_succ]
    refine takeD (i := 13) (v := .bool true) (some 4) rfl rfl (by kernel_rfl) (by kernel_rfl) (by kernel_rfl) (fun _ _ _ h => h) (Or.inl ⟨by rfl, ?_⟩) hS2 ?_
    · rintro w' hq
      go_simp
    try simp only [Act.put, List.setIfInBounds_toArray, List.set_cons_zero, List.set_cons_succ]
    refine wpAnyH_done (by kernel_rfl) ?_ _
    have H1 := Kp.mk hk2
    have H2 := Kp.mk hs2
    clear hk hk1 hk2 hs hs1 hs2 hS0 hS1 hS2 hg1 hg2
    go_wp2_with fail
    go_ret
    exact ⟨rfl, ⟨_, _, _, _, H1.out⟩, H2.out⟩
  | false =>
    have KZ := Kp.mk (show w.heap.size ≤ wc.drew.heap.size from Nat.le_trans HZS.out (Nat.le_of_lt K5.out.lt))
    go_upto_region 21 with fail
    go_cut [11, 12, 13] from 98 to 107 (fun s11 s12 s13 wx => ∃ za : Nat, s11 = .pointer (some ⟨za, 0, none⟩) ∧ s12 = .bool (isG ⟨yk, yt, yf, yh, yp, yo, ys, ya, yA, yn, yc⟩ sf bo E) ∧ s13 = .bool (begG ⟨yk, yt, yf, yh, yp, yo, ys, ya, yA, yn, yc⟩ sf bo E) ∧ Kp (EN W wx X c g d h tz e b q b q sf bo (epG ⟨yk, yt, yf, yh, yp, yo, ys, ya, yA, yn, yc⟩ sf bo E) E y) ∧ Kp (Vb 31 wx zs [.int .i64 yk, .int .i64 yt, .int .i64 yf, .int .i64 yh, .int .i64 yp, .int .i64 yo, .int .i64 ys, .int .i64 ya, .slice yA yn yc]) ∧ Kp (Sk w wx) ∧ Kp (Vb 31 wx za (ansG ⟨yk, yt, yf, yh, yp, yo, ys, ya, yA, yn, yc⟩ sf bo E).cells) ∧ Kp (zs < za) ∧ Kp (w.heap.size ≤ wx.heap.size))
    case first =>
      have hk := K1.out.below (Below.refl _ _).drew
      have hs := KS.out.below (Below.refl _ _).drew
      have hS0 : (fun Y : World => Ev Y X c g d h y ∧ Vb 31 Y zs [.int .i64 yk, .int .i64 yt, .int .i64 yf, .int .i64 yh, .int .i64 yp, .int .i64 yo, .int .i64 ys, .int .i64 ya, .slice yA yn yc]) wc.drew := ⟨hk.en, K5.out.below (Below.refl _ _).drew K5.out.lt⟩
      have HZ3 := Kp.mk (show w.heap.size ≤ wc.drew.heap.size from KZ.out)
      clear K1 KS K5
      refine wp_region_held_drew (S := fun Y : World => Ev Y X c g d h y ∧ Vb 31 Y zs [.int .i64 yk, .int .i64 yt, .int .i64 yf, .int .i64 yh, .int .i64 yp, .int .i64 yo, .int .i64 ys, .int .i64 ya, .slice yA yn yc]) (by kernel_rfl) hS0 (fun _ => ?_)
      generalize wc.drew = w3 at *
      refine takeD (i := 0) (v := .pointer (some ⟨X, 0, none⟩)) (some 99) rfl rfl (by kernel_rfl) (by kernel_rfl) (by kernel_rfl) (fun _ _ _ h => h) (Or.inl ⟨by rfl, ?_⟩) hS0 ?_
      · rintro w' hq
        go_simp
      try simp only [Act.put, List.setIfInBounds_toArray, List.set_cons_zero, List.set_cons_succ]
      refine takeD (i := 1) (v := .pointer (some ⟨X, 0, none⟩)) (some 100) rfl rfl (by kernel_rfl) (by kernel_rfl) (by kernel_rfl) (fun _ _ _ h => h) (Or.inl ⟨by rfl, ?_⟩) hS0 ?_
      · rintro w' hq
        go_simp
      try simp only [Act.put, List.setIfInBounds_toArray, List.set_cons_zero, List.set_cons_succ]
      refine takeD (i := 2) (v := .pointer (some ⟨X, 1, none⟩)) (some 101) rfl rfl (by kernel_rfl) (by kernel_rfl) (by kernel_rfl) (fun _ _ _ h => h) (Or.inl ⟨by rfl, ?_⟩) hS0 ?_
      · rintro w' hq
        go_simp
      try simp only [Act.put, List.setIfInBounds_toArray, List.set_cons_zero, List.set_cons_succ]
      refine takeD (i := 3) (v := .pointer (some ⟨g, 0, none⟩)) (some 102) rfl rfl (by kernel_rfl) (by kernel_rfl) (by kernel_rfl) (fun _ _ _ h => h) (Or.inl ⟨by rfl, ?_⟩) hS0 ?_
      · rintro w' hq
        have x1 := Vb.cell hq.1 1 rfl
        go_simp
      try simp only [Act.put, List.setIfInBounds_toArray, List.set_cons_zero, List.set_cons_succ]
      refine takeD (i := 4) (v := .agg #[.int .i64 yk, .int .i64 yt, .int .i64 yf, .int .i64 yh, .int .i64 yp, .int .i64 yo, .int .i64 ys, .int .i64 ya, .slice yA yn yc]) (some 103) rfl rfl (by kernel_rfl) (by kernel_rfl) (by kernel_rfl) (fun _ _ _ h => h) (Or.inl ⟨by rfl, ?_⟩) hS0 ?_
      · rintro w' hq
        obtain ⟨m0, m1, m2, m3, m4, m5, m6, m7, m8⟩ := seg_nine hq.2
        go_simp
      try simp only [Act.put, List.setIfInBounds_toArray, List.set_cons_zero, List.set_cons_succ]
      refine wpAnyH_ready (rs := [5, 10]) (by kernel_rfl) (by simp) ?_
      refine AllReadyH.cons rfl (fun K hK => ?_) (AllReadyH.cons rfl (fun K hK => ?_) AllReadyH.nil)
      · skip
        try rw [if_pos (by rfl)]
        go_simp
        refine (hk.gtake ⟨yk, yt, yf, yh, yp, yo, ys, ya, yA, yn, yc⟩).mono ?_
        rintro en u1 ⟨rfl, hk1, hg1⟩
        have hS1 : (fun Y : World => Ev Y X c g d h y ∧ Vb 31 Y zs [.int .i64 yk, .int .i64 yt, .int .i64 yf, .int .i64 yh, .int .i64 yp, .int .i64 yo, .int .i64 ys, .int .i64 ya, .slice yA yn yc]) u1 := ⟨hk1.en, hS0.2.grown hg1 (vb_ne hS0.2 hk.cg.gb (by decide))⟩
        have hs1 := hs.other hk.cg.gb (by decide) hg1
        have HG1 := Kp.mk hg1.size
        refine hK.out _ _ hS1 (fun _ => ?_)
        clear hK K
        try simp only [Act.put, List.setIfInBounds_toArray, List.set_cons_zero, List.set_cons_succ]
        refine takeD (i := 6) (v := .tuple #[(ansG ⟨yk, yt, yf, yh, yp, yo, ys, ya, yA, yn, yc⟩ sf bo E).v, .bool (isG ⟨yk, yt, yf, yh, yp, yo, ys, ya, yA, yn, yc⟩ sf bo E), .bool (begG ⟨yk, yt, yf, yh, yp, yo, ys, ya, yA, yn, yc⟩ sf bo E)]) (some 98) rfl rfl (by kernel_rfl) (by kernel_rfl) (by kernel_rfl) (fun _ _ _ h => h) (Or.inl ⟨by rfl, ?_⟩) hS1 ?_
        · rintro w' hq
          go_simp
        try simp only [Act.put, List.setIfInBounds_toArray, List.set_cons_zero, List.set_cons_succ]
        refine takeD (i := 7) (v := (ansG ⟨yk, yt, yf, yh, yp, yo, ys, ya, yA, yn, yc⟩ sf bo E).v) (some 105) rfl rfl (by kernel_rfl) (by kernel_rfl) (by kernel_rfl) (fun _ _ _ h => h) (Or.inl ⟨by rfl, ?_⟩) hS1 ?_
        · rintro w' hq
          go_simp
        try simp only [Act.put, List.setIfInBounds_toArray, List.set_cons_zero, List.set_cons_succ]
        refine takeD (i := 8) (v := .bool (isG ⟨yk, yt, yf, yh, yp, yo, ys, ya, yA, yn, yc⟩ sf bo E)) (some 106) rfl rfl (by kernel_rfl) (by kernel_rfl) (by kernel_rfl) (fun _ _ _ h => h) (Or.inl ⟨by rfl, ?_⟩) hS1 ?_
        · rintro w' hq
          go_simp
        try simp only [Act.put, List.setIfInBounds_toArray, List.set_cons_zero, List.set_cons_succ]
        refine takeD (i := 9) (v := .bool (begG ⟨yk, yt, yf, yh, yp, yo, ys, ya, yA, yn, yc⟩ sf bo E)) (some 107) rfl rfl (by kernel_rfl) (by kernel_rfl) (by kernel_rfl) (fun _ _ _ h => h) (Or.inl ⟨by rfl, ?_⟩) hS1 ?_
        · rintro w' hq
          go_simp
        try simp only [Act.put, List.setIfInBounds_toArray, List.set_cons_zero, List.set_cons_succ]
        have hN := new_seg9 u1 0 0 0 0 0 0 0 0 none 0 0
        have hk2 := hk1.below hN.2
        have hS2 : (fun Y : World => Ev Y X c g d h y ∧ Vb 31 Y zs [.int .i64 yk, .int .i64 yt, .int .i64 yf, .int .i64 yh, .int .i64 yp, .int .i64 yo, .int .i64 ys, .int .i64 ya, .slice yA yn yc]) (u1.alloc (.cells #[.int .i64 0, .int .i64 0, .int .i64 0, .int .i64 0, .int .i64 0, .int .i64 0, .int .i64 0, .int .i64 0, .slice none 0 0] 31)) := ⟨hk2.en, hS1.2.below hN.2 hS1.2.lt⟩
        have hs2 := hs1.below hN.2
        have HZN5 := Kp.mk (show zs < u1.heap.size from hS1.2.lt)
        refine wpAnyH_ready (rs := [10]) (by kernel_rfl) (by simp) ?_
        refine AllReadyH.cons rfl (fun K hK => ?_) AllReadyH.nil
        try rw [if_pos (by rfl)]
        go_simp
        refine hK.out _ _ hS2 (fun _ => ?_)
        clear hK K
        try simp only [Act.put, List.setIfInBounds_toArray, List.set_cons_zero, List.set_cons_succ]
        have hv2 : Vb 31 (u1.alloc (.cells #[.int .i64 0, .int .i64 0, .int .i64 0, .int .i64 0, .int .i64 0, .int .i64 0, .int .i64 0, .int .i64 0, .slice none 0 0] 31)) u1.heap.size sv0.cells := hN.1
        have HU2 := Kp.mk (show w3.heap.size ≤ (u1.alloc (.cells #[.int .i64 0, .int .i64 0, .int .i64 0, .int .i64 0, .int .i64 0, .int .i64 0, .int .i64 0, .int .i64 0, .slice none 0 0] 31)).heap.size from Nat.le_trans HG1.out hN.2.size)
        clear hN
        generalize u1.alloc (.cells #[.int .i64 0, .int .i64 0, .int .i64 0, .int .i64 0, .int .i64 0, .int .i64 0, .int .i64 0, .int .i64 0, .slice none 0 0] 31) = u2 at *
        obtain ⟨zN, hzN⟩ : ∃ z, z = u1.heap.size := ⟨_, rfl⟩
        have HZN := Kp.mk (show w3.heap.size ≤ zN by rw [hzN]; exact HG1.out)
        rw [← hzN] at hv2 HZN5 ⊢
        have HZNZ := Kp.mk (show zs < zN from HZN5.out)
        have HZU := Kp.mk (show w.heap.size ≤ u2.heap.size from Nat.le_trans HZ3.out HU2.out)
        clear hzN
        refine wpAnyH_ready (rs := [11]) (by kernel_rfl) (by simp) ?_
        refine AllReadyH.cons rfl (fun K hK => ?_) AllReadyH.nil
        try rw [if_pos (by rfl)]
        refine wp_store_vbH (vs := (ansG ⟨yk, yt, yf, yh, yp, yo, ys, ya, yA, yn, yc⟩ sf bo E).cells) none rfl (.tmp 11) (.tmp 105) rfl rfl rfl hv2 rfl agg_seg rfl ?_
        intro u5 hv5 hg5 hz5
        have hk5 := hk2.seg hv2 hg5 (Nat.le_trans HW.out (Nat.le_trans HZ3.out HZN.out))
        have hS5 : (fun Y : World => Ev Y X c g d h y ∧ Vb 31 Y zs [.int .i64 yk, .int .i64 yt, .int .i64 yf, .int .i64 yh, .int .i64 yp, .int .i64 yo, .int .i64 ys, .int .i64 ya, .slice yA yn yc]) u5 := ⟨hk5.en, hS2.2.grown hg5 (by have := HZN5.out; omega)⟩
        have hs5 := hs2.new (Nat.le_trans HZ3.out HZN.out) hg5
        refine hK.out _ _ hS5 (fun _ => ?_)
        clear hK K
        try simp only [Act.put, List.setIfInBounds_toArray, List.set_cons_zero, List.set_cons_succ]
        refine takeD (i := 12) (v := .bool (isG ⟨yk, yt, yf, yh, yp, yo, ys, ya, yA, yn, yc⟩ sf bo E)) (some 12) rfl rfl (by kernel_rfl) (by kernel_rfl) (by kernel_rfl) (fun _ _ _ h => h) (Or.inl ⟨by rfl, ?_⟩) hS5 ?_
        · rintro w' hq
          go_simp
        try simp only [Act.put, List.setIfInBounds_toArray, List.set_cons_zero, List.set_cons_succ]
        refine takeD (i := 13) (v := .bool (begG ⟨yk, yt, yf, yh, yp, yo, ys, ya, yA, yn, yc⟩ sf bo E)) (some 13) rfl rfl (by kernel_rfl) (by kernel_rfl) (by kernel_rfl) (fun _ _ _ h => h) (Or.inl ⟨by rfl, ?_⟩) hS5 ?_
        · rintro w' hq
          go_simp
        try simp only [Act.put, List.setIfInBounds_toArray, List.set_cons_zero, List.set_cons_succ]
        refine wpAnyH_done (by kernel_rfl) ?_ _
        have H1 := Kp.mk hk5
        have H2 := Kp.mk hS5.2
        have H3 := Kp.mk hs5
        have H4 := Kp.mk hv5
        have H6 := Kp.mk (show w.heap.size ≤ u5.heap.size by rw [hz5]; exact HZU.out)
        clear hk5 hS5 hs5 hv5 hg5
        go_wp2_with fail
        go_meet
        case rel => exact ⟨zN, rfl, rfl, rfl, H1, H2, H3, H4, HZNZ, H6⟩
      · skip
        try rw [if_pos (by rfl)]
        have hN := new_seg9 w3 0 0 0 0 0 0 0 0 none 0 0
        have hk1 := hk.below hN.2
        have hS1 : (fun Y : World => Ev Y X c g d h y ∧ Vb 31 Y zs [.int .i64 yk, .int .i64 yt, .int .i64 yf, .int .i64 yh, .int .i64 yp, .int .i64 yo, .int .i64 ys, .int .i64 ya, .slice yA yn yc]) (w3.alloc (.cells #[.int .i64 0, .int .i64 0, .int .i64 0, .int .i64 0, .int .i64 0, .int .i64 0, .int .i64 0, .int .i64 0, .slice none 0 0] 31)) := ⟨hk1.en, hS0.2.below hN.2 hS0.2.lt⟩
        have hs1 := hs.below hN.2
        have HZN5 := Kp.mk (show zs < w3.heap.size from hS0.2.lt)
        go_simp
        refine hK.out _ _ hS1 (fun _ => ?_)
        clear hK K
        try simp only [Act.put, List.setIfInBounds_toArray, List.set_cons_zero, List.set_cons_succ]
        have hv1 : Vb 31 (w3.alloc (.cells #[.int .i64 0, .int .i64 0, .int .i64 0, .int .i64 0, .int .i64 0, .int .i64 0, .int .i64 0, .int .i64 0, .slice none 0 0] 31)) w3.heap.size sv0.cells := hN.1
        have HU1 := Kp.mk (show w3.heap.size ≤ (w3.alloc (.cells #[.int .i64 0, .int .i64 0, .int .i64 0, .int .i64 0, .int .i64 0, .int .i64 0, .int .i64 0, .int .i64 0, .slice none 0 0] 31)).heap.size from hN.2.size)
        clear hN hk hs hS0
        generalize w3.alloc (.cells #[.int .i64 0, .int .i64 0, .int .i64 0, .int .i64 0, .int .i64 0, .int .i64 0, .int .i64 0, .int .i64 0, .slice none 0 0] 31) = u1 at *
        obtain ⟨zN, hzN⟩ : ∃ z, z = w3.heap.size := ⟨_, rfl⟩
        have HZN := Kp.mk (show w3.heap.size ≤ zN by omega)
        rw [← hzN] at hv1 HZN5 ⊢
        have HZNZ := Kp.mk (show zs < zN from HZN5.out)
        clear hzN
        refine wpAnyH_ready (rs := [5]) (by kernel_rfl) (by simp) ?_
        refine AllReadyH.cons rfl (fun K hK => ?_) AllReadyH.nil
        try rw [if_pos (by rfl)]
        go_simp
        refine (hk1.gtake ⟨yk, yt, yf, yh, yp, yo, ys, ya, yA, yn, yc⟩).mono ?_
        rintro en u2 ⟨rfl, hk2, hg2⟩
        have hS2 : (fun Y : World => Ev Y X c g d h y ∧ Vb 31 Y zs [.int .i64 yk, .int .i64 yt, .int .i64 yf, .int .i64 yh, .int .i64 yp, .int .i64 yo, .int .i64 ys, .int .i64 ya, .slice yA yn yc]) u2 := ⟨hk2.en, hS1.2.grown hg2 (vb_ne hS1.2 hk1.cg.gb (by decide))⟩
        have hs2 := hs1.other hk1.cg.gb (by decide) hg2
        have hv2 := hv1.grown hg2 (vb_ne hv1 hk1.cg.gb (by decide))
        have HZU := Kp.mk (show w.heap.size ≤ u2.heap.size from Nat.le_trans HZ3.out (Nat.le_trans HU1.out hg2.size))
        refine hK.out _ _ hS2 (fun _ => ?_)
        clear hK K
        try simp only [Act.put, List.setIfInBounds_toArray, List.set_cons_zero, List.set_cons_succ]
        refine takeD (i := 6) (v := .tuple #[(ansG ⟨yk, yt, yf, yh, yp, yo, ys, ya, yA, yn, yc⟩ sf bo E).v, .bool (isG ⟨yk, yt, yf, yh, yp, yo, ys, ya, yA, yn, yc⟩ sf bo E), .bool (begG ⟨yk, yt, yf, yh, yp, yo, ys, ya, yA, yn, yc⟩ sf bo E)]) (some 98) rfl rfl (by kernel_rfl) (by kernel_rfl) (by kernel_rfl) (fun _ _ _ h => h) (Or.inl ⟨by rfl, ?_⟩) hS2 ?_
        · rintro w' hq
          go_simp
        try simp only [Act.put, List.setIfInBounds_toArray, List.set_cons_zero, List.set_cons_succ]
        refine takeD (i := 7) (v := (ansG ⟨yk, yt, yf, yh, yp, yo, ys, ya, yA, yn, yc⟩ sf bo E).v) (some 105) rfl rfl (by kernel_rfl) (by kernel_rfl) (by kernel_rfl) (fun _ _ _ h => h) (Or.inl ⟨by rfl, ?_⟩) hS2 ?_
        · rintro w' hq
          go_simp
        try simp only [Act.put, List.setIfInBounds_toArray, List.set_cons_zero, List.set_cons_succ]
        refine takeD (i := 8) (v := .bool (isG ⟨yk, yt, yf, yh, yp, yo, ys, ya, yA, yn, yc⟩ sf bo E)) (some 106) rfl rfl (by kernel_rfl) (by kernel_rfl) (by kernel_rfl) (fun _ _ _ h => h) (Or.inl ⟨by rfl, ?_⟩) hS2 ?_
        · rintro w' hq
          go_simp
        try simp only [Act.put, List.setIfInBounds_toArray, List.set_cons_zero, List.set_cons_succ]
        refine takeD (i := 9) (v := .bool (begG ⟨yk, yt, yf, yh, yp, yo, ys, ya, yA, yn, yc⟩ sf bo E)) (some 107) rfl rfl (by kernel_rfl) (by kernel_rfl) (by kernel_rfl) (fun _ _ _ h => h) (Or.inl ⟨by rfl, ?_⟩) hS2 ?_
        · rintro w' hq
          go_simp
        try simp only [Act.put, List.setIfInBounds_toArray, List.set_cons_zero, List.set_cons_succ]
        refine wpAnyH_ready (rs := [11]) (by kernel_rfl) (by simp) ?_
        refine AllReadyH.cons rfl (fun K hK => ?_) AllReadyH.nil
        try rw [if_pos (by rfl)]
        refine wp_store_vbH (vs := (ansG ⟨yk, yt, yf, yh, yp, yo, ys, ya, yA, yn, yc⟩ sf bo E).cells) none rfl (.tmp 11) (.tmp 105) rfl rfl rfl hv2 rfl agg_seg rfl ?_
        intro u5 hv5 hg5 hz5
        have hk5 := hk2.seg hv2 hg5 (Nat.le_trans HW.out (Nat.le_trans HZ3.out HZN.out))
        have hS5 : (fun Y : World => Ev Y X c g d h y ∧ Vb 31 Y zs [.int .i64 yk, .int .i64 yt, .int .i64 yf, .int .i64 yh, .int .i64 yp, .int .i64 yo, .int .i64 ys, .int .i64 ya, .slice yA yn yc]) u5 := ⟨hk5.en, hS2.2.grown hg5 (by have := HZN5.out; omega)⟩
        have hs5 := hs2.new (Nat.le_trans HZ3.out HZN.out) hg5
        refine hK.out _ _ hS5 (fun _ => ?_)
        clear hK K
        try simp only [Act.put, List.setIfInBounds_toArray, List.set_cons_zero, List.set_cons_succ]
        refine takeD (i := 12) (v := .bool (isG ⟨yk, yt, yf, yh, yp, yo, ys, ya, yA, yn, yc⟩ sf bo E)) (some 12) rfl rfl (by kernel_rfl) (by kernel_rfl) (by kernel_rfl) (fun _ _ _ h => h) (Or.inl ⟨by rfl, ?_⟩) hS5 ?_
        · rintro w' hq
          go_simp
        try simp only [Act.put, List.setIfInBounds_toArray, List.set_cons_zero, List.set_cons_succ]
        refine takeD (i := 13) (v := .bool (begG ⟨yk, yt, yf, yh, yp, yo, ys, ya, yA, yn, yc⟩ sf bo E)) (some 13) rfl rfl (by kernel_rfl) (by kernel_rfl) (by kernel_rfl) (fun _ _ _ h => h) (Or.inl ⟨by rfl, ?_⟩) hS5 ?_
        · rintro w' hq
          go_simp
        try simp only [Act.put, List.setIfInBounds_toArray, List.set_cons_zero, List.set_cons_succ]
        refine wpAnyH_done (by kernel_rfl) ?_ _
        have H1 := Kp.mk hk5
        have H2 := Kp.mk hS5.2
        have H3 := Kp.mk hs5
        have H4 := Kp.mk hv5
        have H6 := Kp.mk (show w.heap.size ≤ u5.heap.size by rw [hz5]; exact HZU.out)
        clear hk5 hS5 hs5 hv5 hg5
        go_wp2_with fail
        go_meet
        case rel => exact ⟨zN, rfl, rfl, rfl, H1, H2, H3, H4, HZNZ, H6⟩
    case rest =>
    obtain ⟨za, rfl, rfl, rfl, K1, K5, KS, KA, KZA, KZ⟩ := hcut
    replace KZ : Kp (w.heap.size ≤ wc.drew.heap.size) := KZ
    go_upto_region 22 with fail
    go_cut [14, 15, 16] from 108 to 117 (fun s14 s15 s16 wx => ∃ zb : Nat, s14 = .pointer (some ⟨zb, 0, none⟩) ∧ s15 = .bool (isG ⟨yk, yt, yf, yh, yp, yo, ys, ya, yA, yn, yc⟩ sf bo E) ∧ s16 = .bool (begG ⟨yk, yt, yf, yh, yp, yo, ys, ya, yA, yn, yc⟩ sf bo E) ∧ Kp (EN W wx X c g d h tz e b q b q sf bo (epG ⟨yk, yt, yf, yh, yp, yo, ys, ya, yA, yn, yc⟩ sf bo E) (epG ⟨yk, yt, yf, yh, yp, yo, ys, ya, yA, yn, yc⟩ sf bo E) y) ∧ Kp (Vb 31 wx zs [.int .i64 yk, .int .i64 yt, .int .i64 yf, .int .i64 yh, .int .i64 yp, .int .i64 yo, .int .i64 ys, .int .i64 ya, .slice yA yn yc]) ∧ Kp (Sk w wx) ∧ Kp (Vb 31 wx zb (ansG ⟨yk, yt, yf, yh, yp, yo, ys, ya, yA, yn, yc⟩ sf bo E).cells) ∧ Kp (Vb 31 wx za (ansG ⟨yk, yt, yf, yh, yp, yo, ys, ya, yA, yn, yc⟩ sf bo E).cells))
    case first =>
      have hk := K1.out.below (Below.refl _ _).drew
      have hs := KS.out.below (Below.refl _ _).drew
      have hS0 : (fun Y : World => Ev Y X c g d h y ∧ Vb 31 Y zs [.int .i64 yk, .int .i64 yt, .int .i64 yf, .int .i64 yh, .int .i64 yp, .int .i64 yo, .int .i64 ys, .int .i64 ya, .slice yA yn yc]) wc.drew := ⟨hk.en, K5.out.below (Below.refl _ _).drew K5.out.lt⟩
      have hva := KA.out.below (Below.refl _ _).drew KA.out.lt
      have HZ3 := Kp.mk (show w.heap.size ≤ wc.drew.heap.size from KZ.out)
      clear K1 KS K5 KA
      refine wp_region_held_drew (S := fun Y : World => Ev Y X c g d h y ∧ Vb 31 Y zs [.int .i64 yk, .int .i64 yt, .int .i64 yf, .int .i64 yh, .int .i64 yp, .int .i64 yo, .int .i64 ys, .int .i64 ya, .slice yA yn yc]) (by kernel_rfl) hS0 (fun _ => ?_)
      generalize wc.drew = w3 at *
      refine takeD (i := 0) (v := .pointer (some ⟨X, 0, none⟩)) (some 109) rfl rfl (by kernel_rfl) (by kernel_rfl) (by kernel_rfl) (fun _ _ _ h => h) (Or.inl ⟨by rfl, ?_⟩) hS0 ?_
      · rintro w' hq
        go_simp
      try simp only [Act.put, List.setIfInBounds_toArray, List.set_cons_zero, List.set_cons_succ]
      refine takeD (i := 1) (v := .pointer (some ⟨X, 0, none⟩)) (some 110) rfl rfl (by kernel_rfl) (by kernel_rfl) (by kernel_rfl) (fun _ _ _ h => h) (Or.inl ⟨by rfl, ?_⟩) hS0 ?_
      · rintro w' hq
        go_simp
      try simp only [Act.put, List.setIfInBounds_toArray, List.set_cons_zero, List.set_cons_succ]
      refine takeD (i := 2) (v := .pointer (some ⟨X, 3, none⟩)) (some 111) rfl rfl (by kernel_rfl) (by kernel_rfl) (by kernel_rfl) (fun _ _ _ h => h) (Or.inl ⟨by rfl, ?_⟩) hS0 ?_
      · rintro w' hq
        go_simp
      try simp only [Act.put, List.setIfInBounds_toArray, List.set_cons_zero, List.set_cons_succ]
      refine takeD (i := 3) (v := .pointer (some ⟨h, 0, none⟩)) (some 112) rfl rfl (by kernel_rfl) (by kernel_rfl) (by kernel_rfl) (fun _ _ _ h => h) (Or.inl ⟨by rfl, ?_⟩) hS0 ?_
      · rintro w' hq
        have x1 := Vb.cell hq.1 3 rfl
        go_simp
      try simp only [Act.put, List.setIfInBounds_toArray, List.set_cons_zero, List.set_cons_succ]
      refine takeD (i := 4) (v := .agg #[.int .i64 yk, .int .i64 yt, .int .i64 yf, .int .i64 yh, .int .i64 yp, .int .i64 yo, .int .i64 ys, .int .i64 ya, .slice yA yn yc]) (some 113) rfl rfl (by kernel_rfl) (by kernel_rfl) (by kernel_rfl) (fun _ _ _ h => h) (Or.inl ⟨by rfl, ?_⟩) hS0 ?_
      · rintro w' hq
        obtain ⟨m0, m1, m2, m3, m4, m5, m6, m7, m8⟩ := seg_nine hq.2
        go_simp
      try simp only [Act.put, List.setIfInBounds_toArray, List.set_cons_zero, List.set_cons_succ]
      refine wpAnyH_ready (rs := [5, 10]) (by kernel_rfl) (by simp) ?_
      refine AllReadyH.cons rfl (fun K hK => ?_) (AllReadyH.cons rfl (fun K hK => ?_) AllReadyH.nil)
      · skip
        try rw [if_pos (by rfl)]
        go_simp
        refine (hk.rgtake ⟨yk, yt, yf, yh, yp, yo, ys, ya, yA, yn, yc⟩).mono ?_
        rintro en u1 ⟨rfl, hk1, hg1⟩
        have hS1 : (fun Y : World => Ev Y X c g d h y ∧ Vb 31 Y zs [.int .i64 yk, .int .i64 yt, .int .i64 yf, .int .i64 yh, .int .i64 yp, .int .i64 yo, .int .i64 ys, .int .i64 ya, .slice yA yn yc]) u1 := ⟨hk1.en, hS0.2.grown hg1 (vb_ne hS0.2 hk.rg (by decide))⟩
        have hs1 := hs.other hk.rg (by decide) hg1
        have hva1 := hva.grown hg1 (vb_ne hva hk.rg (by decide))
        have HG1 := Kp.mk hg1.size
        refine hK.out _ _ hS1 (fun _ => ?_)
        clear hK K
        try simp only [Act.put, List.setIfInBounds_toArray, List.set_cons_zero, List.set_cons_succ]
        refine takeD (i := 6) (v := .tuple #[(ansG ⟨yk, yt, yf, yh, yp, yo, ys, ya, yA, yn, yc⟩ sf bo E).v, .bool (isG ⟨yk, yt, yf, yh, yp, yo, ys, ya, yA, yn, yc⟩ sf bo E), .bool (begG ⟨yk, yt, yf, yh, yp, yo, ys, ya, yA, yn, yc⟩ sf bo E)]) (some 108) rfl rfl (by kernel_rfl) (by kernel_rfl) (by kernel_rfl) (fun _ _ _ h => h) (Or.inl ⟨by rfl, ?_⟩) hS1 ?_
        · rintro w' hq
          go_simp
        try simp only [Act.put, List.setIfInBounds_toArray, List.set_cons_zero, List.set_cons_succ]
        refine takeD (i := 7) (v := (ansG ⟨yk, yt, yf, yh, yp, yo, ys, ya, yA, yn, yc⟩ sf bo E).v) (some 115) rfl rfl (by kernel_rfl) (by kernel_rfl) (by kernel_rfl) (fun _ _ _ h => h) (Or.inl ⟨by rfl, ?_⟩) hS1 ?_
        · rintro w' hq
          go_simp
        try simp only [Act.put, List.setIfInBounds_toArray, List.set_cons_zero, List.set_cons_succ]
        refine takeD (i := 8) (v := .bool (isG ⟨yk, yt, yf, yh, yp, yo, ys, ya, yA, yn, yc⟩ sf bo E)) (some 116) rfl rfl (by kernel_rfl) (by kernel_rfl) (by kernel_rfl) (fun _ _ _ h => h) (Or.inl ⟨by rfl, ?_⟩) hS1 ?_
        · rintro w' hq
          go_simp
        try simp only [Act.put, List.setIfInBounds_toArray, List.set_cons_zero, List.set_cons_succ]
        refine takeD (i := 9) (v := .bool (begG ⟨yk, yt, yf, yh, yp, yo, ys, ya, yA, yn, yc⟩ sf bo E)) (some 117) rfl rfl (by kernel_rfl) (by kernel_rfl) (by kernel_rfl) (fun _ _ _ h => h) (Or.inl ⟨by rfl, ?_⟩) hS1 ?_
        · rintro w' hq
          go_simp
        try simp only [Act.put, List.setIfInBounds_toArray, List.set_cons_zero, List.set_cons_succ]
        have hN := new_seg9 u1 0 0 0 0 0 0 0 0 none 0 0
        have hk2 := hk1.below hN.2
        have hS2 : (fun Y : World => Ev Y X c g d h y ∧ Vb 31 Y zs [.int .i64 yk, .int .i64 yt, .int .i64 yf, .int .i64 yh, .int .i64 yp, .int .i64 yo, .int .i64 ys, .int .i64 ya, .slice yA yn yc]) (u1.alloc (.cells #[.int .i64 0, .int .i64 0, .int .i64 0, .int .i64 0, .int .i64 0, .int .i64 0, .int .i64 0, .int .i64 0, .slice none 0 0] 31)) := ⟨hk2.en, hS1.2.below hN.2 hS1.2.lt⟩
        have hs2 := hs1.below hN.2
        have hvaN := hva1.below hN.2 hva1.lt
        have HZN5 := Kp.mk (show zs < u1.heap.size from hS1.2.lt)
        have HZNA := Kp.mk (show za < u1.heap.size from hva1.lt)
        refine wpAnyH_ready (rs := [10]) (by kernel_rfl) (by simp) ?_
        refine AllReadyH.cons rfl (fun K hK => ?_) AllReadyH.nil
        try rw [if_pos (by rfl)]
        go_simp
        refine hK.out _ _ hS2 (fun _ => ?_)
        clear hK K
        try simp only [Act.put, List.setIfInBounds_toArray, List.set_cons_zero, List.set_cons_succ]
        have hv2 : Vb 31 (u1.alloc (.cells #[.int .i64 0, .int .i64 0, .int .i64 0, .int .i64 0, .int .i64 0, .int .i64 0, .int .i64 0, .int .i64 0, .slice none 0 0] 31)) u1.heap.size sv0.cells := hN.1
        have HU2 := Kp.mk (show w3.heap.size ≤ (u1.alloc (.cells #[.int .i64 0, .int .i64 0, .int .i64 0, .int .i64 0, .int .i64 0, .int .i64 0, .int .i64 0, .int .i64 0, .slice none 0 0] 31)).heap.size from Nat.le_trans HG1.out hN.2.size)
        clear hN
        generalize u1.alloc (.cells #[.int .i64 0, .int .i64 0, .int .i64 0, .int .i64 0, .int .i64 0, .int .i64 0, .int .i64 0, .int .i64 0, .slice none 0 0] 31) = u2 at *
        obtain ⟨zN, hzN⟩ : ∃ z, z = u1.heap.size := ⟨_, rfl⟩
        have HZN := Kp.mk (show w3.heap.size ≤ zN by rw [hzN]; exact HG1.out)
        rw [← hzN] at hv2 HZN5 HZNA ⊢
        have HZNZ := Kp.mk (show zs < zN from HZN5.out)
        have HZU := Kp.mk (show w.heap.size ≤ u2.heap.size from Nat.le_trans HZ3.out HU2.out)
        clear hzN
        refine wpAnyH_ready (rs := [11]) (by kernel_rfl) (by simp) ?_
        refine AllReadyH.cons rfl (fun K hK => ?_) AllReadyH.nil
        try rw [if_pos (by rfl)]
        refine wp_store_vbH (vs := (ansG ⟨yk, yt, yf, yh, yp, yo, ys, ya, yA, yn, yc⟩ sf bo E).cells) none rfl (.tmp 14) (.tmp 115) rfl rfl rfl hv2 rfl agg_seg rfl ?_
        intro u5 hv5 hg5 hz5
        have hk5 := hk2.seg hv2 hg5 (Nat.le_trans HW.out (Nat.le_trans HZ3.out HZN.out))
        have hS5 : (fun Y : World => Ev Y X c g d h y ∧ Vb 31 Y zs [.int .i64 yk, .int .i64 yt, .int .i64 yf, .int .i64 yh, .int .i64 yp, .int .i64 yo, .int .i64 ys, .int .i64 ya, .slice yA yn yc]) u5 := ⟨hk5.en, hS2.2.grown hg5 (by have := HZN5.out; omega)⟩
        have hs5 := hs2.new (Nat.le_trans HZ3.out HZN.out) hg5
        have hva5 := hvaN.grown hg5 (by have := HZNA.out; omega)
        refine hK.out _ _ hS5 (fun _ => ?_)
        clear hK K
        try simp only [Act.put, List.setIfInBounds_toArray, List.set_cons_zero, List.set_cons_succ]
        refine takeD (i := 12) (v := .bool (isG ⟨yk, yt, yf, yh, yp, yo, ys, ya, yA, yn, yc⟩ sf bo E)) (some 15) rfl rfl (by kernel_rfl) (by kernel_rfl) (by kernel_rfl) (fun _ _ _ h => h) (Or.inl ⟨by rfl, ?_⟩) hS5 ?_
        · rintro w' hq
          go_simp
        try simp only [Act.put, List.setIfInBounds_toArray, List.set_cons_zero, List.set_cons_succ]
        refine takeD (i := 13) (v := .bool (begG ⟨yk, yt, yf, yh, yp, yo, ys, ya, yA, yn, yc⟩ sf bo E)) (some 16) rfl rfl (by kernel_rfl) (by kernel_rfl) (by kernel_rfl) (fun _ _ _ h => h) (Or.inl ⟨by rfl, ?_⟩) hS5 ?_
        · rintro w' hq
          go_simp
        try simp only [Act.put, List.setIfInBounds_toArray, List.set_cons_zero, List.set_cons_succ]
        refine wpAnyH_done (by kernel_rfl) ?_ _
        have H1 := Kp.mk hk5
        have H2 := Kp.mk hS5.2
        have H3 := Kp.mk hs5
        have H4 := Kp.mk hv5
        have H5 := Kp.mk hva5
        have H6 := Kp.mk (show w.heap.size ≤ u5.heap.size by rw [hz5]; exact HZU.out)
        clear hk5 hS5 hs5 hv5 hg5
        go_wp2_with fail
        go_meet
        case rel => exact ⟨zN, rfl, rfl, rfl, H1, H2, H3, H4, H5⟩
      · skip
        try rw [if_pos (by rfl)]
        have hN := new_seg9 w3 0 0 0 0 0 0 0 0 none 0 0
        have hk1 := hk.below hN.2
        have hS1 : (fun Y : World => Ev Y X c g d h y ∧ Vb 31 Y zs [.int .i64 yk, .int .i64 yt, .int .i64 yf, .int .i64 yh, .int .i64 yp, .int .i64 yo, .int .i64 ys, .int .i64 ya, .slice yA yn yc]) (w3.alloc (.cells #[.int .i64 0, .int .i64 0, .int .i64 0, .int .i64 0, .int .i64 0, .int .i64 0, .int .i64 0, .int .i64 0, .slice none 0 0] 31)) := ⟨hk1.en, hS0.2.below hN.2 hS0.2.lt⟩
        have hs1 := hs.below hN.2
        have hva1 := hva.below hN.2 hva.lt
        have HZN5 := Kp.mk (show zs < w3.heap.size from hS0.2.lt)
        have HZNA := Kp.mk (show za < w3.heap.size from hva.lt)
        go_simp
        refine hK.out _ _ hS1 (fun _ => ?_)
        clear hK K
        try simp only [Act.put, List.setIfInBounds_toArray, List.set_cons_zero, List.set_cons_succ]
        have hv1 : Vb 31 (w3.alloc (.cells #[.int .i64 0, .int .i64 0, .int .i64 0, .int .i64 0, .int .i64 0, .int .i64 0, .int .i64 0, .int .i64 0, .slice none 0 0] 31)) w3.heap.size sv0.cells := hN.1
        have HU1 := Kp.mk (show w3.heap.size ≤ (w3.alloc (.cells #[.int .i64 0, .int .i64 0, .int .i64 0, .int .i64 0, .int .i64 0, .int .i64 0, .int .i64 0, .int .i64 0, .slice none 0 0] 31)).heap.size from hN.2.size)
        clear hN hk hs hS0 hva
        generalize w3.alloc (.cells #[.int .i64 0, .int .i64 0, .int .i64 0, .int .i64 0, .int .i64 0, .int .i64 0, .int .i64 0, .int .i64 0, .slice none 0 0] 31) = u1 at *
        obtain ⟨zN, hzN⟩ : ∃ z, z = w3.heap.size := ⟨_, rfl⟩
        have HZN := Kp.mk (show w3.heap.size ≤ zN by omega)
        rw [← hzN] at hv1 HZN5 HZNA ⊢
        have HZNZ := Kp.mk (show zs < zN from HZN5.out)
        clear hzN
        refine wpAnyH_ready (rs := [5]) (by kernel_rfl) (by simp) ?_
        refine AllReadyH.cons rfl (fun K hK => ?_) AllReadyH.nil
        try rw [if_pos (by rfl)]
        go_simp
        refine (hk1.rgtake ⟨yk, yt, yf, yh, yp, yo, ys, ya, yA, yn, yc⟩).mono ?_
        rintro en u2 ⟨rfl, hk2, hg2⟩
        have hS2 : (fun Y : World => Ev Y X c g d h y ∧ Vb 31 Y zs [.int .i64 yk, .int .i64 yt, .int .i64 yf, .int .i64 yh, .int .i64 yp, .int .i64 yo, .int .i64 ys, .int .i64 ya, .slice yA yn yc]) u2 := ⟨hk2.en, hS1.2.grown hg2 (vb_ne hS1.2 hk1.rg (by decide))⟩
        have hs2 := hs1.other hk1.rg (by decide) hg2
        have hv2 := hv1.grown hg2 (vb_ne hv1 hk1.rg (by decide))
        have hvaN := hva1.grown hg2 (vb_ne hva1 hk1.rg (by decide))
        have HZU := Kp.mk (show w.heap.size ≤ u2.heap.size from Nat.le_trans HZ3.out (Nat.le_trans HU1.out hg2.size))
        refine hK.out _ _ hS2 (fun _ => ?_)
        clear hK K
        try simp only [Act.put, List.setIfInBounds_toArray, List.set_cons_zero, List.set_cons_succ]
        refine takeD (i := 6) (v := .tuple #[(ansG ⟨yk, yt, yf, yh, yp, yo, ys, ya, yA, yn, yc⟩ sf bo E).v, .bool (isG ⟨yk, yt, yf, yh, yp, yo, ys, ya, yA, yn, yc⟩ sf bo E), .bool (begG ⟨yk, yt, yf, yh, yp, yo, ys, ya, yA, yn, yc⟩ sf bo E)]) (some 108) rfl rfl (by kernel_rfl) (by kernel_rfl) (by kernel_rfl) (fun _ _ _ h => h) (Or.inl ⟨by rfl, ?_⟩) hS2 ?_
        · rintro w' hq
          go_simp
        try simp only [Act.put, List.setIfInBounds_toArray, List.set_cons_zero, List.set_cons_succ]
        refine takeD (i := 7) (v := (ansG ⟨yk, yt, yf, yh, yp, yo, ys, ya, yA, yn, yc⟩ sf bo E).v) (some 115) rfl rfl (by kernel_rfl) (by kernel_rfl) (by kernel_rfl) (fun _ _ _ h => h) (Or.inl ⟨by rfl, ?_⟩) hS2 ?_
        · rintro w' hq
          go_simp
        try simp only [Act.put, List.setIfInBounds_toArray, List.set_cons_zero, List.set_cons_succ]
        refine takeD (i := 8) (v := .bool (isG ⟨yk, yt, yf, yh, yp, yo, ys, ya, yA, yn, yc⟩ sf bo E)) (some 116) rfl rfl (by kernel_rfl) (by kernel_rfl) (by kernel_rfl) (fun _ _ _ h => h) (Or.inl ⟨by rfl, ?_⟩) hS2 ?_
        · rintro w' hq
          go_simp
        try simp only [Act.put, List.setIfInBounds_toArray, List.set_cons_zero, List.set_cons_succ]
        refine takeD (i := 9) (v := .bool (begG ⟨yk, yt, yf, yh, yp, yo, ys, ya, yA, yn, yc⟩ sf bo E)) (some 117) rfl rfl (by kernel_rfl) (by kernel_rfl) (by kernel_rfl) (fun _ _ _ h => h) (Or.inl ⟨by rfl, ?_⟩) hS2 ?_
        · rintro w' hq
          go_simp
        try simp only [Act.put, List.setIfInBounds_toArray, List.set_cons_zero, List.set_cons_succ]
        refine wpAnyH_ready (rs := [11]) (by kernel_rfl) (by simp) ?_
        refine AllReadyH.cons rfl (fun K hK => ?_) AllReadyH.nil
        try rw [if_pos (by rfl)]
        refine wp_store_vbH (vs := (ansG ⟨yk, yt, yf, yh, yp, yo, ys, ya, yA, yn, yc⟩ sf bo E).cells) none rfl (.tmp 14) (.tmp 115) rfl rfl rfl hv2 rfl agg_seg rfl ?_
        intro u5 hv5 hg5 hz5
        have hk5 := hk2.seg hv2 hg5 (Nat.le_trans HW.out (Nat.le_trans HZ3.out HZN.out))
        have hS5 : (fun Y : World => Ev Y X c g d h y ∧ Vb 31 Y zs [.int .i64 yk, .int .i64 yt, .int .i64 yf, .int .i64 yh, .int .i64 yp, .int .i64 yo, .int .i64 ys, .int .i64 ya, .slice yA yn yc]) u5 := ⟨hk5.en, hS2.2.grown hg5 (by have := HZN5.out; omega)⟩
        have hs5 := hs2.new (Nat.le_trans HZ3.out HZN.out) hg5
        have hva5 := hvaN.grown hg5 (by have := HZNA.out; omega)
        refine hK.out _ _ hS5 (fun _ => ?_)
        clear hK K
        try simp only [Act.put, List.setIfInBounds_toArray, List.set_cons_zero, List.set_cons_succ]
        refine takeD (i := 12) (v := .bool (isG ⟨yk, yt, yf, yh, yp, yo, ys, ya, yA, yn, yc⟩ sf bo E)) (some 15) rfl rfl (by kernel_rfl) (by kernel_rfl) (by kernel_rfl) (fun _ _ _ h => h) (Or.inl ⟨by rfl, ?_⟩) hS5 ?_
        · rintro w' hq
          go_simp
        try simp only [Act.put, List.setIfInBounds_toArray, List.set_cons_zero, List.set_cons_succ]
        refine takeD (i := 13) (v := .bool (begG ⟨yk, yt, yf, yh, yp, yo, ys, ya, yA, yn, yc⟩ sf bo E)) (some 16) rfl rfl (by kernel_rfl) (by kernel_rfl) (by kernel_rfl) (fun _ _ _ h => h) (Or.inl ⟨by rfl, ?_⟩) hS5 ?_
        · rintro w' hq
          go_simp
        try simp only [Act.put, List.setIfInBounds_toArray, List.set_cons_zero, List.set_cons_succ]
        refine wpAnyH_done (by kernel_rfl) ?_ _
        have H1 := Kp.mk hk5
        have H2 := Kp.mk hS5.2
        have H3 := Kp.mk hs5
        have H4 := Kp.mk hv5
        have H5 := Kp.mk hva5
        have H6 := Kp.mk (show w.heap.size ≤ u5.heap.size by rw [hz5]; exact HZU.out)
        clear hk5 hS5 hs5 hv5 hg5
        go_wp2_with fail
        go_meet
        case rel => exact ⟨zN, rfl, rfl, rfl, H1, H2, H3, H4, H5⟩
    case rest =>
    obtain ⟨zb, rfl, rfl, rfl, K1, K5, KS, KB, KA⟩ := hcut
    have hbare := ansG_bare ⟨yk, yt, yf, yh, yp, yo, ys, ya, yA, yn, yc⟩ sf bo E
    generalize ansG ⟨yk, yt, yf, yh, yp, yo, ys, ya, yA, yn, yc⟩ sf bo E = ra at *
    generalize isG ⟨yk, yt, yf, yh, yp, yo, ys, ya, yA, yn, yc⟩ sf bo E = B1 at *
    generalize begG ⟨yk, yt, yf, yh, yp, yo, ys, ya, yA, yn, yc⟩ sf bo E = B2 at *
    generalize epG ⟨yk, yt, yf, yh, yp, yo, ys, ya, yA, yn, yc⟩ sf bo E = E3 at *
    obtain ⟨rk, rt, rf, rh, rp, ro, rs, ra_, rA, rn, rc⟩ := ra
    clear K5 KZA KZ
    have va : Vb 31 wc za [.int .i64 rk, .int .i64 rt, .int .i64 rf, .int .i64 rh, .int .i64 rp, .int .i64 ro, .int .i64 rs, .int .i64 ra_, .slice rA rn rc] := KA.out
    have vb : Vb 31 wc zb [.int .i64 rk, .int .i64 rt, .int .i64 rf, .int .i64 rh, .int .i64 rp, .int .i64 ro, .int .i64 rs, .int .i64 ra_, .slice rA rn rc] := KB.out
    clear KA KB
    cases B1 with
    | true =>
      obtain ⟨m0, m1, m2, m3, m4, m5, m6, m7, m8⟩ := seg_nine vb
      have hE := K1.out.en
      go_upto_region 25 with (refine wpList_store_at (vs := [.int .i64 rk, .int .i64 rt, .int .i64 rf, .int .i64 rh, .int .i64 rp, .int .i64 ro, .int .i64 rs, .int .i64 ra_, .slice rA rn rc]) rfl (.tmp 122) (.tmp 120) rfl rfl rfl hE (by simp) agg_seg rfl ?_; intro u6 hv6 hg6 hz6)
      have hk6 := K1.out.keep (Ev.set (x := ⟨rk, rt, rf, rh, rp, ro, rs, ra_, rA, rn, rc⟩) hv6) hg6
      have va6 := va.grown hg6 (vb_ne va hE (by decide))
      have vb6 := vb.grown hg6 (vb_ne vb hE (by decide))
      have H3 := Kp.mk (KS.out.other hE (by decide) hg6)
      have H1 := Kp.mk hk6
      clear hE hk6 va vb K1 KS hv6 hg6 hz6 m0 m1 m2 m3 m4 m5 m6 m7 m8
      obtain ⟨m0, m1, m2, m3, m4, m5, m6, m7, m8⟩ := seg_nine va6
      obtain ⟨n0, n1, n2, n3, n4, n5, n6, n7, n8⟩ := seg_nine vb6
      go_wp2_with fail
      refine (same_self ⟨rk, rt, rf, rh, rp, ro, rs, ra_, rA, rn, rc⟩ hbare _).mono ?_
      rintro en u7 ⟨rfl, hb7⟩
      have H5 := Kp.mk (H1.out.below hb7)
      have H6 := Kp.mk (H3.out.below hb7)
      clear hb7 m0 m1 m2 m3 m4 m5 m6 m7 m8 n0 n1 n2 n3 n4 n5 n6 n7 n8
      cases B2 <;> (go_wp2_with fail; go_ret; exact ⟨rfl, ⟨_, _, _, _, H5.out⟩, H6.out⟩)
    | false =>
      obtain ⟨m0, m1, m2, m3, m4, m5, m6, m7, m8⟩ := seg_nine va
      obtain ⟨n0, n1, n2, n3, n4, n5, n6, n7, n8⟩ := seg_nine vb
      go_wp2_with fail
      refine (same_self ⟨rk, rt, rf, rh, rp, ro, rs, ra_, rA, rn, rc⟩ hbare _).mono ?_
      rintro en u7 ⟨rfl, hb7⟩
      have H5 := Kp.mk (K1.out.below hb7)
      have H6 := Kp.mk (KS.out.below hb7)
      clear hb7 m0 m1 m2 m3 m4 m5 m6 m7 m8 n0 n1 n2 n3 n4 n5 n6 n7 n8
      cases B2 <;> (go_wp2_with fail; go_ret; exact ⟨rfl, ⟨_, _, _, _, H5.out⟩, H6.out⟩)
end
end Go.Proofs.Ytomjnpjabfnlbaa.Oct
