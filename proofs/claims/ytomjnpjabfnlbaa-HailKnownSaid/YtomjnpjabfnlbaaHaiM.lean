/- Layer 16 (hail): near: a segment that fits an end. -/
import Derived.Test.YtomjnpjabfnlbaaHaiK
import Derived.Test.YtomjnpjabfnlbaaBring
namespace Go.Proofs.Ytomjnpjabfnlbaa.Oct
open Go.RowKit
set_option linter.unusedVariables false
set_option linter.unusedSimpArgs false

section
variable {W w w' : World} {X c g d h : Nat} {tz e b q b2 q2 sf bo E E2 : Int} {y : Sv}
theorem EN.cells (k : EN W w X c g d h tz e b q b2 q2 sf bo E E2 y) : w.cell? ⟨X, 0, none⟩ = some (.pointer (some ⟨c, 0, none⟩)) ∧ w.cell? ⟨X, 1, none⟩ = some (.pointer (some ⟨g, 0, none⟩)) ∧ w.cell? ⟨X, 2, none⟩ = some (.pointer (some ⟨d, 0, none⟩)) ∧ w.cell? ⟨X, 3, none⟩ = some (.pointer (some ⟨h, 0, none⟩)) ∧
    w.cell? ⟨d, 0, none⟩ = some (.int .i64 tz) ∧ w.cell? ⟨d, 1, none⟩ = some (.int .i64 e) ∧ w.cell? ⟨h, 0, none⟩ = some (.int .i64 sf) ∧ w.cell? ⟨h, 1, none⟩ = some (.int .i64 bo) :=
  ⟨Vb.cell k.en 0 rfl, Vb.cell k.en 1 rfl, Vb.cell k.en 2 rfl, Vb.cell k.en 3 rfl, Vb.cell k.rc 0 rfl, Vb.cell k.rc 1 rfl, Vb.cell k.rg 0 rfl, Vb.cell k.rg 1 rfl⟩
/-- What stays where only new memory is made: the ends, and what was said. -/
def NearOf (w : World) (en : Ending) (w' : World) : Prop := ∃ y : Sv, en = .returned y.v ∧ Below w.heap.size w w'
set_option maxRecDepth 100000 in
set_option maxHeartbeats 8000000 in
theorem near_any (k : EN W w X c g d h tz e b q b2 q2 sf bo E E2 y) (kn tt fr : Int) : Calls Try.prog 34 #[.pointer (some ⟨X, 0, none⟩), .int .i64 kn, .int .i64 tt, .int .i64 fr] w (NearOf w) := by
  have HN := Kp.mk (new_seg9 w 0 0 0 0 0 0 0 0 none 0 0)
  have hb1 := Ser.bring_any kn 5 (w.alloc (.cells #[.int .i64 0, .int .i64 0, .int .i64 0, .int .i64 0, .int .i64 0, .int .i64 0, .int .i64 0, .int .i64 0, .slice none 0 0] 31)) (by omega) (by omega)
  have k1 := Ser.bringP_bd kn 5 (by omega)
  generalize Ser.bringP kn 5 = a1 at *
  have e1 : wrap64 (1 + a1) = 1 + a1 := by unfold wrap64; omega
  have hk := k.below HN.out.2
  have HW0 := Kp.mk k.cg.old.size
  clear k
  go_enter Try.func34, Try.ntmps34
  go_upto_region 2 with (refine hb1.mono ?_; rintro en w1 ⟨rfl, hw1⟩; subst hw1)
  clear hb1
  obtain ⟨K, hK⟩ : ∃ K, K = 1 + a1 := ⟨_, rfl⟩
  have hK5 : K = 1 ∨ K = 2 ∨ K = 3 ∨ K = 4 ∨ K = 5 := by omega
  rw [← hK]
  clear e1 k1 hK
  have hN2 := new_seg9 (w.alloc (.cells #[.int .i64 0, .int .i64 0, .int .i64 0, .int .i64 0, .int .i64 0, .int .i64 0, .int .i64 0, .int .i64 0, .slice none 0 0] 31)) K tt fr 0 0 0 0 0 none 0 0
  have hk2 := hk.below hN2.2
  have HA := Kp.mk (HN.out.1.below hN2.2 HN.out.1.lt)
  have HB := Kp.mk (HN.out.2.trans (hN2.2.mono HN.out.2.size))
  obtain ⟨z8, hz8⟩ : ∃ z, z = w.heap.size := ⟨_, rfl⟩
  have hz9 : (w.alloc (.cells #[.int .i64 0, .int .i64 0, .int .i64 0, .int .i64 0, .int .i64 0, .int .i64 0, .int .i64 0, .int .i64 0, .slice none 0 0] 31)).heap.size = z8 + 1 := by rw [hz8]; exact allocZ _ _
  have v9 := hN2.1
  rw [hz9] at v9
  rw [← hz8] at HA
  have HZ := Kp.mk hz8
  rw [← hz8]
  clear hz8 hz9 hN2 hk HN
  generalize (w.alloc (.cells #[.int .i64 0, .int .i64 0, .int .i64 0, .int .i64 0, .int .i64 0, .int .i64 0, .int .i64 0, .int .i64 0, .slice none 0 0] 31)).alloc (.cells #[.int .i64 K, .int .i64 tt, .int .i64 fr, .int .i64 0, .int .i64 0, .int .i64 0, .int .i64 0, .int .i64 0, .slice none 0 0] 31) = w2 at *
  go_wp2_with fail
  refine (Ser.bring_any _ 4 _ (by omega) (by omega)).mono ?_
  rintro en w1 ⟨rfl, hw1⟩
  subst hw1
  generalize Ser.bringP _ 4 = nn at *
  have HB0 := Kp.mk (show W.heap.size ≤ w.heap.size from HW0.out)
  rcases hK5 with rfl | rfl | rfl | rfl | rfl
  · skip
    obtain ⟨n0, n1, n2, n3, n4, n5, n6, n7, n8⟩ := seg_nine v9
    have hA := HA.out
    have HBB := Kp.mk HB.out
    clear hk2
    go_wp2_with (refine wpList_store_vb (vs := [.int .i64 1, .int .i64 tt, .int .i64 fr, .int .i64 0, .int .i64 0, .int .i64 0, .int .i64 0, .int .i64 0, .slice none 0 0]) rfl (.tmp 8) (.tmp 61) rfl rfl rfl hA rfl agg_seg rfl ?_; intro w9 hv9 hg9 hz9; clear hA)
    refine bodyPost_ret (v := .agg #[.int .i64 1, .int .i64 tt, .int .i64 fr, .int .i64 0, .int .i64 0, .int .i64 0, .int .i64 0, .int .i64 0, .slice none 0 0]) (results_one Try.results34 _ rfl hv9 agg_seg) rfl ?_
    exact ⟨⟨1, tt, fr, 0, 0, 0, 0, 0, none, 0, 0⟩, rfl, below_grown HBB.out hg9 HBB.out.size (by have := HZ.out; omega)⟩
  · skip
    obtain ⟨n0, n1, n2, n3, n4, n5, n6, n7, n8⟩ := seg_nine v9
    go_upto_region 4 with fail
    clear n0 n1 n2 n3 n4 n5 n6 n7 n8
    have hS0 := hk2.below (Below.refl _ _).drew
    have v3 := v9.below (Below.refl _ _).drew v9.lt
    have HA2 := Kp.mk (HA.out.below (Below.refl _ _).drew HA.out.lt)
    have HB2 := Kp.mk HB.out.drew
    clear hk2 v9 HA HB
    refine wp_region_held_drew (S := fun Y : World => EN W Y X c g d h tz e b q b2 q2 sf bo E E2 y) (by kernel_rfl) hS0 (fun _ => ?_)
    generalize w2.drew = w3 at *
    refine takeD (i := 0) (v := .pointer (some ⟨X, 0, none⟩)) (some 28) rfl rfl (by kernel_rfl) (by kernel_rfl) (by kernel_rfl) (fun _ _ _ h => h) (Or.inl ⟨by rfl, ?_⟩) hS0 ?_
    · rintro w' hq
      go_simp
    try simp only [Act.put, List.setIfInBounds_toArray, List.set_cons_zero, List.set_cons_succ]
    refine takeD (i := 1) (v := .pointer (some ⟨X, 0, none⟩)) (some 29) rfl rfl (by kernel_rfl) (by kernel_rfl) (by kernel_rfl) (fun _ _ _ h => h) (Or.inl ⟨by rfl, ?_⟩) hS0 ?_
    · rintro w' hq
      go_simp
    try simp only [Act.put, List.setIfInBounds_toArray, List.set_cons_zero, List.set_cons_succ]
    refine takeD (i := 2) (v := .pointer (some ⟨X, 3, none⟩)) (some 30) rfl rfl (by kernel_rfl) (by kernel_rfl) (by kernel_rfl) (fun _ _ _ h => h) (Or.inl ⟨by rfl, ?_⟩) hS0 ?_
    · rintro w' hq
      go_simp
    try simp only [Act.put, List.setIfInBounds_toArray, List.set_cons_zero, List.set_cons_succ]
    refine takeD (i := 3) (v := .pointer (some ⟨h, 0, none⟩)) (some 31) rfl rfl (by kernel_rfl) (by kernel_rfl) (by kernel_rfl) (fun _ _ _ h => h) (Or.inl ⟨by rfl, ?_⟩) hS0 ?_
    · rintro w' hq
      obtain ⟨x0, x1, x2, x3, x4, x5, x6, x7⟩ := hq.cells
      go_simp
    try simp only [Act.put, List.setIfInBounds_toArray, List.set_cons_zero, List.set_cons_succ]
    refine takeD (i := 4) (v := .pointer (some ⟨h, 0, none⟩)) (some 32) rfl rfl (by kernel_rfl) (by kernel_rfl) (by kernel_rfl) (fun _ _ _ h => h) (Or.inl ⟨by rfl, ?_⟩) hS0 ?_
    · rintro w' hq
      go_simp
    try simp only [Act.put, List.setIfInBounds_toArray, List.set_cons_zero, List.set_cons_succ]
    refine takeD (i := 5) (v := .pointer (some ⟨h, 1, none⟩)) (some 33) rfl rfl (by kernel_rfl) (by kernel_rfl) (by kernel_rfl) (fun _ _ _ h => h) (Or.inl ⟨by rfl, ?_⟩) hS0 ?_
    · rintro w' hq
      go_simp
    try simp only [Act.put, List.setIfInBounds_toArray, List.set_cons_zero, List.set_cons_succ]
    refine takeD (i := 6) (v := .int .i64 bo) (some 34) rfl rfl (by kernel_rfl) (by kernel_rfl) (by kernel_rfl) (fun _ _ _ h => h) (Or.inl ⟨by rfl, ?_⟩) hS0 ?_
    · rintro w' hq
      obtain ⟨x0, x1, x2, x3, x4, x5, x6, x7⟩ := hq.cells
      go_simp
    try simp only [Act.put, List.setIfInBounds_toArray, List.set_cons_zero, List.set_cons_succ]
    refine takeD (i := 7) (v := .int .i64 kn) (some 35) rfl rfl (by kernel_rfl) (by kernel_rfl) (by kernel_rfl) (fun _ _ _ h => h) (Or.inl ⟨by rfl, ?_⟩) hS0 ?_
    · rintro w' hq
      go_simp
    try simp only [Act.put, List.setIfInBounds_toArray, List.set_cons_zero, List.set_cons_succ]
    refine takeD (i := 8) (v := .int .i64 (IntKind.i64.wrap (kn.tdiv 20))) (some 36) rfl rfl (by kernel_rfl) (by kernel_rfl) (by kernel_rfl) (fun _ _ _ h => h) (Or.inl ⟨by rfl, ?_⟩) hS0 ?_
    · rintro w' hq
      go_simp
    try simp only [Act.put, List.setIfInBounds_toArray, List.set_cons_zero, List.set_cons_succ]
    refine wpAnyH_ready (rs := [9]) (by kernel_rfl) (by simp) ?_
    refine AllReadyH.cons rfl (fun K hK => ?_) AllReadyH.nil
    try rw [if_pos (by rfl)]
    go_simp
    refine (Ser.bring_any _ 2 _ (by omega) (by omega)).mono ?_
    rintro en w1 ⟨rfl, hw1⟩
    subst hw1
    generalize Ser.bringP _ 2 = m2 at *
    refine hK.out _ _ hS0 (fun _ => ?_)
    clear hK K
    try simp only [Act.put, List.setIfInBounds_toArray, List.set_cons_zero, List.set_cons_succ]
    refine takeD (i := 10) (v := .int .i64 (IntKind.i64.wrap (bo + m2))) (some 38) rfl rfl (by kernel_rfl) (by kernel_rfl) (by kernel_rfl) (fun _ _ _ h => h) (Or.inl ⟨by rfl, ?_⟩) hS0 ?_
    · rintro w' hq
      go_simp
    try simp only [Act.put, List.setIfInBounds_toArray, List.set_cons_zero, List.set_cons_succ]
    refine wpAnyH_ready (rs := [11]) (by kernel_rfl) (by simp) ?_
    refine AllReadyH.cons rfl (fun K hK => ?_) AllReadyH.nil
    try rw [if_pos (by rfl)]
    go_simp
    generalize (if IntKind.i64.wrap (bo + m2) < 0 then 0 else IntKind.i64.wrap (bo + m2)) = mm at *
    refine hK.out _ _ hS0 (fun _ => ?_)
    clear hK K
    try simp only [Act.put, List.setIfInBounds_toArray, List.set_cons_zero, List.set_cons_succ]
    refine takeD (i := 12) (v := .pointer (some ⟨z8 + 1, 5, none⟩)) (some 40) rfl rfl (by kernel_rfl) (by kernel_rfl) (by kernel_rfl) (fun _ _ _ h => h) (Or.inl ⟨by rfl, ?_⟩) hS0 ?_
    · rintro w' hq
      go_simp
    try simp only [Act.put, List.setIfInBounds_toArray, List.set_cons_zero, List.set_cons_succ]
    have c5 := v3.cell 5 rfl
    have f5 := v3.free 5
    have v4 := v3.set 5 (.int .i64 mm)
    have hg4 := grownBy_set w3 (z8 + 1) 5 (.int .i64 mm)
    have hS4 := hS0.seg v3 hg4 (by have := HZ.out; have := hS0.cg.old.size; have := HB0.out; omega)
    refine wpAnyH_ready (rs := [13]) (by kernel_rfl) (by simp) ?_
    refine AllReadyH.cons rfl (fun K hK => ?_) AllReadyH.nil
    try rw [if_pos (by rfl)]
    go_simp
    refine hK.out _ _ hS4 (fun _ => ?_)
    clear hK K
    try simp only [Act.put, List.setIfInBounds_toArray, List.set_cons_zero, List.set_cons_succ]
    refine wpAnyH_done (by kernel_rfl) ?_ _
    have HA := Kp.mk (HA2.out.other (show z8 ≠ z8 + 1 by omega) 5 (.int .i64 mm))
    have HB := Kp.mk (below_grown HB2.out hg4 HB2.out.size (by have := HZ.out; omega))
    clear v3 c5 f5 hS0 hg4 HA2 HB2
    generalize w3.setCell ⟨z8 + 1, 5, none⟩ (.int .i64 mm) = w4 at *
    have v9 := v4
    have hk2 := hS4
    clear v4 hS4
    obtain ⟨n0, n1, n2, n3, n4, n5, n6, n7, n8⟩ := seg_nine v9
    have hA := HA.out
    have HBB := Kp.mk HB.out
    clear hk2
    go_wp2_with (refine wpList_store_vb (vs := [.int .i64 2, .int .i64 tt, .int .i64 fr, .int .i64 0, .int .i64 0, .int .i64 mm, .int .i64 0, .int .i64 0, .slice none 0 0]) rfl (.tmp 8) (.tmp 61) rfl rfl rfl hA rfl agg_seg rfl ?_; intro w9 hv9 hg9 hz9; clear hA)
    refine bodyPost_ret (v := .agg #[.int .i64 2, .int .i64 tt, .int .i64 fr, .int .i64 0, .int .i64 0, .int .i64 mm, .int .i64 0, .int .i64 0, .slice none 0 0]) (results_one Try.results34 _ rfl hv9 agg_seg) rfl ?_
    exact ⟨⟨2, tt, fr, 0, 0, mm, 0, 0, none, 0, 0⟩, rfl, below_grown HBB.out hg9 HBB.out.size (by have := HZ.out; omega)⟩
  · skip
    obtain ⟨n0, n1, n2, n3, n4, n5, n6, n7, n8⟩ := seg_nine v9
    go_upto_region 4 with fail
    clear n0 n1 n2 n3 n4 n5 n6 n7 n8
    have hS0 := hk2.below (Below.refl _ _).drew
    have v3 := v9.below (Below.refl _ _).drew v9.lt
    have HA2 := Kp.mk (HA.out.below (Below.refl _ _).drew HA.out.lt)
    have HB2 := Kp.mk HB.out.drew
    clear hk2 v9 HA HB
    refine wp_region_held_drew (S := fun Y : World => EN W Y X c g d h tz e b q b2 q2 sf bo E E2 y) (by kernel_rfl) hS0 (fun _ => ?_)
    generalize w2.drew = w3 at *
    refine takeD (i := 0) (v := .pointer (some ⟨X, 0, none⟩)) (some 28) rfl rfl (by kernel_rfl) (by kernel_rfl) (by kernel_rfl) (fun _ _ _ h => h) (Or.inl ⟨by rfl, ?_⟩) hS0 ?_
    · rintro w' hq
      go_simp
    try simp only [Act.put, List.setIfInBounds_toArray, List.set_cons_zero, List.set_cons_succ]
    refine takeD (i := 1) (v := .pointer (some ⟨X, 0, none⟩)) (some 29) rfl rfl (by kernel_rfl) (by kernel_rfl) (by kernel_rfl) (fun _ _ _ h => h) (Or.inl ⟨by rfl, ?_⟩) hS0 ?_
    · rintro w' hq
      go_simp
    try simp only [Act.put, List.setIfInBounds_toArray, List.set_cons_zero, List.set_cons_succ]
    refine takeD (i := 2) (v := .pointer (some ⟨X, 3, none⟩)) (some 30) rfl rfl (by kernel_rfl) (by kernel_rfl) (by kernel_rfl) (fun _ _ _ h => h) (Or.inl ⟨by rfl, ?_⟩) hS0 ?_
    · rintro w' hq
      go_simp
    try simp only [Act.put, List.setIfInBounds_toArray, List.set_cons_zero, List.set_cons_succ]
    refine takeD (i := 3) (v := .pointer (some ⟨h, 0, none⟩)) (some 31) rfl rfl (by kernel_rfl) (by kernel_rfl) (by kernel_rfl) (fun _ _ _ h => h) (Or.inl ⟨by rfl, ?_⟩) hS0 ?_
    · rintro w' hq
      obtain ⟨x0, x1, x2, x3, x4, x5, x6, x7⟩ := hq.cells
      go_simp
    try simp only [Act.put, List.setIfInBounds_toArray, List.set_cons_zero, List.set_cons_succ]
    refine takeD (i := 4) (v := .pointer (some ⟨h, 0, none⟩)) (some 32) rfl rfl (by kernel_rfl) (by kernel_rfl) (by kernel_rfl) (fun _ _ _ h => h) (Or.inl ⟨by rfl, ?_⟩) hS0 ?_
    · rintro w' hq
      go_simp
    try simp only [Act.put, List.setIfInBounds_toArray, List.set_cons_zero, List.set_cons_succ]
    refine takeD (i := 5) (v := .pointer (some ⟨h, 1, none⟩)) (some 33) rfl rfl (by kernel_rfl) (by kernel_rfl) (by kernel_rfl) (fun _ _ _ h => h) (Or.inl ⟨by rfl, ?_⟩) hS0 ?_
    · rintro w' hq
      go_simp
    try simp only [Act.put, List.setIfInBounds_toArray, List.set_cons_zero, List.set_cons_succ]
    refine takeD (i := 6) (v := .int .i64 bo) (some 34) rfl rfl (by kernel_rfl) (by kernel_rfl) (by kernel_rfl) (fun _ _ _ h => h) (Or.inl ⟨by rfl, ?_⟩) hS0 ?_
    · rintro w' hq
      obtain ⟨x0, x1, x2, x3, x4, x5, x6, x7⟩ := hq.cells
      go_simp
    try simp only [Act.put, List.setIfInBounds_toArray, List.set_cons_zero, List.set_cons_succ]
    refine takeD (i := 7) (v := .int .i64 kn) (some 35) rfl rfl (by kernel_rfl) (by kernel_rfl) (by kernel_rfl) (fun _ _ _ h => h) (Or.inl ⟨by rfl, ?_⟩) hS0 ?_
    · rintro w' hq
      go_simp
    try simp only [Act.put, List.setIfInBounds_toArray, List.set_cons_zero, List.set_cons_succ]
    refine takeD (i := 8) (v := .int .i64 (IntKind.i64.wrap (kn.tdiv 20))) (some 36) rfl rfl (by kernel_rfl) (by kernel_rfl) (by kernel_rfl) (fun _ _ _ h => h) (Or.inl ⟨by rfl, ?_⟩) hS0 ?_
    · rintro w' hq
      go_simp
    try simp only [Act.put, List.setIfInBounds_toArray, List.set_cons_zero, List.set_cons_succ]
    refine wpAnyH_ready (rs := [9]) (by kernel_rfl) (by simp) ?_
    refine AllReadyH.cons rfl (fun K hK => ?_) AllReadyH.nil
    try rw [if_pos (by rfl)]
    go_simp
    refine (Ser.bring_any _ 2 _ (by omega) (by omega)).mono ?_
    rintro en w1 ⟨rfl, hw1⟩
    subst hw1
    generalize Ser.bringP _ 2 = m2 at *
    refine hK.out _ _ hS0 (fun _ => ?_)
    clear hK K
    try simp only [Act.put, List.setIfInBounds_toArray, List.set_cons_zero, List.set_cons_succ]
    refine takeD (i := 10) (v := .int .i64 (IntKind.i64.wrap (bo + m2))) (some 38) rfl rfl (by kernel_rfl) (by kernel_rfl) (by kernel_rfl) (fun _ _ _ h => h) (Or.inl ⟨by rfl, ?_⟩) hS0 ?_
    · rintro w' hq
      go_simp
    try simp only [Act.put, List.setIfInBounds_toArray, List.set_cons_zero, List.set_cons_succ]
    refine wpAnyH_ready (rs := [11]) (by kernel_rfl) (by simp) ?_
    refine AllReadyH.cons rfl (fun K hK => ?_) AllReadyH.nil
    try rw [if_pos (by rfl)]
    go_simp
    generalize (if IntKind.i64.wrap (bo + m2) < 0 then 0 else IntKind.i64.wrap (bo + m2)) = mm at *
    refine hK.out _ _ hS0 (fun _ => ?_)
    clear hK K
    try simp only [Act.put, List.setIfInBounds_toArray, List.set_cons_zero, List.set_cons_succ]
    refine takeD (i := 12) (v := .pointer (some ⟨z8 + 1, 5, none⟩)) (some 40) rfl rfl (by kernel_rfl) (by kernel_rfl) (by kernel_rfl) (fun _ _ _ h => h) (Or.inl ⟨by rfl, ?_⟩) hS0 ?_
    · rintro w' hq
      go_simp
    try simp only [Act.put, List.setIfInBounds_toArray, List.set_cons_zero, List.set_cons_succ]
    have c5 := v3.cell 5 rfl
    have f5 := v3.free 5
    have v4 := v3.set 5 (.int .i64 mm)
    have hg4 := grownBy_set w3 (z8 + 1) 5 (.int .i64 mm)
    have hS4 := hS0.seg v3 hg4 (by have := HZ.out; have := hS0.cg.old.size; have := HB0.out; omega)
    refine wpAnyH_ready (rs := [13]) (by kernel_rfl) (by simp) ?_
    refine AllReadyH.cons rfl (fun K hK => ?_) AllReadyH.nil
    try rw [if_pos (by rfl)]
    go_simp
    refine hK.out _ _ hS4 (fun _ => ?_)
    clear hK K
    try simp only [Act.put, List.setIfInBounds_toArray, List.set_cons_zero, List.set_cons_succ]
    refine wpAnyH_done (by kernel_rfl) ?_ _
    have HA := Kp.mk (HA2.out.other (show z8 ≠ z8 + 1 by omega) 5 (.int .i64 mm))
    have HB := Kp.mk (below_grown HB2.out hg4 HB2.out.size (by have := HZ.out; omega))
    clear v3 c5 f5 hS0 hg4 HA2 HB2
    generalize w3.setCell ⟨z8 + 1, 5, none⟩ (.int .i64 mm) = w4 at *
    have v9 := v4
    have hk2 := hS4
    clear v4 hS4
    obtain ⟨n0, n1, n2, n3, n4, n5, n6, n7, n8⟩ := seg_nine v9
    obtain ⟨x0, x1, x2, x3, x4, x5, x6, x7⟩ := hk2.cells
    have f4 := v9.free 4
    go_upto_region 7 with fail
    clear n0 n1 n2 n3 n4 n5 n6 n7 n8 x0 x1 x2 x3 x4 x5 x6 x7 f4
    generalize (if 1 < wrap64 (wrap64 (e + nn) - 2) then wrap64 (wrap64 (e + nn) - 2) else 1) = p4 at *
    have hg5 := grownBy_set w4 (z8 + 1) 4 (.int .i64 p4)
    have HB5 := Kp.mk (below_grown HB.out hg5 HB.out.size (by have := HZ.out; omega))
    have HA5 := Kp.mk (HA.out.other (show z8 ≠ z8 + 1 by omega) 4 (.int .i64 p4))
    have hk5 := hk2.seg v9 hg5 (by have := HZ.out; have := HB0.out; omega)
    have v5 := v9.set 4 (.int .i64 p4)
    clear hk2 v9 HA HB hg5
    generalize w4.setCell ⟨z8 + 1, 4, none⟩ (.int .i64 p4) = w5 at *
    have HA := HA5
    have HB := HB5
    have hk2 := hk5
    have v9 : Vb 31 w5 (z8 + 1) [.int .i64 3, .int .i64 tt, .int .i64 fr, .int .i64 0, .int .i64 p4, .int .i64 mm, .int .i64 0, .int .i64 0, .slice none 0 0] := v5
    clear HA5 HB5 hk5 v5
    obtain ⟨n0, n1, n2, n3, n4, n5, n6, n7, n8⟩ := seg_nine v9
    have hA := HA.out
    have HBB := Kp.mk HB.out
    clear hk2
    go_wp2_with (refine wpList_store_vb (vs := [.int .i64 3, .int .i64 tt, .int .i64 fr, .int .i64 0, .int .i64 p4, .int .i64 mm, .int .i64 0, .int .i64 0, .slice none 0 0]) rfl (.tmp 8) (.tmp 61) rfl rfl rfl hA rfl agg_seg rfl ?_; intro w9 hv9 hg9 hz9; clear hA)
    refine bodyPost_ret (v := .agg #[.int .i64 3, .int .i64 tt, .int .i64 fr, .int .i64 0, .int .i64 p4, .int .i64 mm, .int .i64 0, .int .i64 0, .slice none 0 0]) (results_one Try.results34 _ rfl hv9 agg_seg) rfl ?_
    exact ⟨⟨3, tt, fr, 0, p4, mm, 0, 0, none, 0, 0⟩, rfl, below_grown HBB.out hg9 HBB.out.size (by have := HZ.out; omega)⟩
  · skip
    obtain ⟨n0, n1, n2, n3, n4, n5, n6, n7, n8⟩ := seg_nine v9
    obtain ⟨x0, x1, x2, x3, x4, x5, x6, x7⟩ := hk2.cells
    have f4 := v9.free 4
    go_upto_region 7 with fail
    clear n0 n1 n2 n3 n4 n5 n6 n7 n8 x0 x1 x2 x3 x4 x5 x6 x7 f4
    generalize (if 1 < wrap64 (wrap64 (e + nn) - 2) then wrap64 (wrap64 (e + nn) - 2) else 1) = p4 at *
    have hg5 := grownBy_set w2 (z8 + 1) 4 (.int .i64 p4)
    have HB5 := Kp.mk (below_grown HB.out hg5 HB.out.size (by have := HZ.out; omega))
    have HA5 := Kp.mk (HA.out.other (show z8 ≠ z8 + 1 by omega) 4 (.int .i64 p4))
    have hk5 := hk2.seg v9 hg5 (by have := HZ.out; have := HB0.out; omega)
    have v5 := v9.set 4 (.int .i64 p4)
    clear hk2 v9 HA HB hg5
    generalize w2.setCell ⟨z8 + 1, 4, none⟩ (.int .i64 p4) = w5 at *
    have HA := HA5
    have HB := HB5
    have hk2 := hk5
    have v9 : Vb 31 w5 (z8 + 1) [.int .i64 4, .int .i64 tt, .int .i64 fr, .int .i64 0, .int .i64 p4, .int .i64 0, .int .i64 0, .int .i64 0, .slice none 0 0] := v5
    clear HA5 HB5 hk5 v5
    obtain ⟨n0, n1, n2, n3, n4, n5, n6, n7, n8⟩ := seg_nine v9
    have hA := HA.out
    have HBB := Kp.mk HB.out
    clear hk2
    go_wp2_with (refine wpList_store_vb (vs := [.int .i64 4, .int .i64 tt, .int .i64 fr, .int .i64 0, .int .i64 p4, .int .i64 0, .int .i64 0, .int .i64 0, .slice none 0 0]) rfl (.tmp 8) (.tmp 61) rfl rfl rfl hA rfl agg_seg rfl ?_; intro w9 hv9 hg9 hz9; clear hA)
    refine bodyPost_ret (v := .agg #[.int .i64 4, .int .i64 tt, .int .i64 fr, .int .i64 0, .int .i64 p4, .int .i64 0, .int .i64 0, .int .i64 0, .slice none 0 0]) (results_one Try.results34 _ rfl hv9 agg_seg) rfl ?_
    exact ⟨⟨4, tt, fr, 0, p4, 0, 0, 0, none, 0, 0⟩, rfl, below_grown HBB.out hg9 HBB.out.size (by have := HZ.out; omega)⟩
  · skip
    obtain ⟨n0, n1, n2, n3, n4, n5, n6, n7, n8⟩ := seg_nine v9
    obtain ⟨x0, x1, x2, x3, x4, x5, x6, x7⟩ := hk2.cells
    have f4 := v9.free 4
    go_upto_region 7 with fail
    clear n0 n1 n2 n3 n4 n5 n6 n7 n8 x0 x1 x2 x3 x4 x5 x6 x7 f4
    generalize (if 1 < wrap64 (wrap64 (e + nn) - 2) then wrap64 (wrap64 (e + nn) - 2) else 1) = p4 at *
    have hg5 := grownBy_set w2 (z8 + 1) 4 (.int .i64 p4)
    have HB5 := Kp.mk (below_grown HB.out hg5 HB.out.size (by have := HZ.out; omega))
    have HA5 := Kp.mk (HA.out.other (show z8 ≠ z8 + 1 by omega) 4 (.int .i64 p4))
    have hk5 := hk2.seg v9 hg5 (by have := HZ.out; have := HB0.out; omega)
    have v5 := v9.set 4 (.int .i64 p4)
    clear hk2 v9 HA HB hg5
    generalize w2.setCell ⟨z8 + 1, 4, none⟩ (.int .i64 p4) = w5 at *
    have HA := HA5
    have HB := HB5
    have hk2 := hk5
    have v9 : Vb 31 w5 (z8 + 1) [.int .i64 5, .int .i64 tt, .int .i64 fr, .int .i64 0, .int .i64 p4, .int .i64 0, .int .i64 0, .int .i64 0, .slice none 0 0] := v5
    clear HA5 HB5 hk5 v5
    obtain ⟨n0, n1, n2, n3, n4, n5, n6, n7, n8⟩ := seg_nine v9
    have v6 := v9.alloc (.cells #[.int .u8 1] 5)
    have e8 := v6.cell 8 rfl
    have f8 := v6.free 8
    go_upto_region 9 with fail
    clear n0 n1 n2 n3 n4 n5 n6 n7 n8 e8 f8
    have hbA := below_alloc w5 (.cells #[.int .u8 1] 5)
    obtain ⟨zq, hzq⟩ : ∃ z, z = w5.heap.size := ⟨_, rfl⟩
    rw [← hzq]
    have HQ := Kp.mk hzq
    have v7 := v6.set 8 (.slice (some ⟨zq, 0, none⟩) 1 1)
    have hg7 := grownBy_set (w5.alloc (.cells #[.int .u8 1] 5)) (z8 + 1) 8 (.slice (some ⟨zq, 0, none⟩) 1 1)
    have HB6 := Kp.mk (HB.out.trans (hbA.mono HB.out.size))
    have HA6 := Kp.mk ((HA.out.alloc (.cells #[.int .u8 1] 5)).other (show z8 ≠ z8 + 1 by omega) 8 (.slice (some ⟨zq, 0, none⟩) 1 1))
    have HB7 := Kp.mk (below_grown HB6.out hg7 HB6.out.size (by have := HZ.out; omega))
    clear hk2 v9 v6 HA HB HB6 hg7 hbA hzq
    generalize (w5.alloc (.cells #[.int .u8 1] 5)).setCell ⟨z8 + 1, 8, none⟩ (.slice (some ⟨zq, 0, none⟩) 1 1) = w6 at *
    have HA := HA6
    have HB := HB7
    have v9 : Vb 31 w6 (z8 + 1) [.int .i64 5, .int .i64 tt, .int .i64 fr, .int .i64 0, .int .i64 p4, .int .i64 0, .int .i64 0, .int .i64 0, .slice (some ⟨zq, 0, none⟩) 1 1] := v7
    have hk2 : True := trivial
    clear HA6 HB7 v7
    obtain ⟨n0, n1, n2, n3, n4, n5, n6, n7, n8⟩ := seg_nine v9
    have hA := HA.out
    have HBB := Kp.mk HB.out
    clear hk2
    go_wp2_with (refine wpList_store_vb (vs := [.int .i64 5, .int .i64 tt, .int .i64 fr, .int .i64 0, .int .i64 p4, .int .i64 0, .int .i64 0, .int .i64 0, .slice (some ⟨zq, 0, none⟩) 1 1]) rfl (.tmp 8) (.tmp 61) rfl rfl rfl hA rfl agg_seg rfl ?_; intro w9 hv9 hg9 hz9; clear hA)
    refine bodyPost_ret (v := .agg #[.int .i64 5, .int .i64 tt, .int .i64 fr, .int .i64 0, .int .i64 p4, .int .i64 0, .int .i64 0, .int .i64 0, .slice (some ⟨zq, 0, none⟩) 1 1]) (results_one Try.results34 _ rfl hv9 agg_seg) rfl ?_
    exact ⟨⟨5, tt, fr, 0, p4, 0, 0, 0, some ⟨zq, 0, none⟩, 1, 1⟩, rfl, below_grown HBB.out hg9 HBB.out.size (by have := HZ.out; omega)⟩
end
end Go.Proofs.Ytomjnpjabfnlbaa.Oct
