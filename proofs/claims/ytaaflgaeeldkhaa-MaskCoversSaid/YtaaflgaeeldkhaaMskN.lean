/- The walk of MaskCovers. -/
import Derived.Test.YtaaflgaeeldkhaaMskW
import Derived.Test.YtaaflgaeeldkhaaMskX
import Derived.Test.YtaaflgaeeldkhaaMskQ
import Derived.Deep.CutRange
namespace Go.Proofs.Ytaaflgaeeldkhaa.Oct
open Go.RowKit
set_option linter.unusedVariables false
set_option linter.unusedSimpArgs false

set_option maxRecDepth 100000 in
set_option maxHeartbeats 8000000 in
theorem maskCovers_any (x y : MaskV) (p q a b c : Int) (x8 : MB x) (y8 : MB y) (w : World) : Calls Try.prog 12 #[.agg #[.int .i64 x.v, .int .i64 x.m, .int .u8 x.b0, .int .u8 x.b1, .int .u8 x.b2, .int .u8 x.i0, .int .u8 x.i1, .int .u8 x.i2, .int .i64 y.v, .int .i64 y.m, .int .u8 y.b0, .int .u8 y.b1, .int .u8 y.b2, .int .u8 y.i0, .int .u8 y.i1, .int .u8 y.i2], .agg #[.int .i64 p, .int .i64 q], .agg #[.int .u8 a, .int .u8 b, .int .u8 c]] w fun e w' => e = .returned (.bool true) ∧ Below w.heap.size w w' := by
  have hl : Vb 62 (((w.alloc (.cells #[.int .i64 x.v, .int .i64 x.m, .int .u8 x.b0, .int .u8 x.b1, .int .u8 x.b2, .int .u8 x.i0, .int .u8 x.i1, .int .u8 x.i2, .int .i64 y.v, .int .i64 y.m, .int .u8 y.b0, .int .u8 y.b1, .int .u8 y.b2, .int .u8 y.i0, .int .u8 y.i1, .int .u8 y.i2] 62)).alloc (.cells #[.int .i64 p, .int .i64 q] 52)).alloc (.cells #[.int .u8 a, .int .u8 b, .int .u8 c] 23)) w.heap.size [.int .i64 x.v, .int .i64 x.m, .int .u8 x.b0, .int .u8 x.b1, .int .u8 x.b2, .int .u8 x.i0, .int .u8 x.i1, .int .u8 x.i2, .int .i64 y.v, .int .i64 y.m, .int .u8 y.b0, .int .u8 y.b1, .int .u8 y.b2, .int .u8 y.i0, .int .u8 y.i1, .int .u8 y.i2] := ((Vb.new 62 w [.int .i64 x.v, .int .i64 x.m, .int .u8 x.b0, .int .u8 x.b1, .int .u8 x.b2, .int .u8 x.i0, .int .u8 x.i1, .int .u8 x.i2, .int .i64 y.v, .int .i64 y.m, .int .u8 y.b0, .int .u8 y.b1, .int .u8 y.b2, .int .u8 y.i0, .int .u8 y.i1, .int .u8 y.i2]).alloc _).alloc _
  have ht : Vb 52 (((w.alloc (.cells #[.int .i64 x.v, .int .i64 x.m, .int .u8 x.b0, .int .u8 x.b1, .int .u8 x.b2, .int .u8 x.i0, .int .u8 x.i1, .int .u8 x.i2, .int .i64 y.v, .int .i64 y.m, .int .u8 y.b0, .int .u8 y.b1, .int .u8 y.b2, .int .u8 y.i0, .int .u8 y.i1, .int .u8 y.i2] 62)).alloc (.cells #[.int .i64 p, .int .i64 q] 52)).alloc (.cells #[.int .u8 a, .int .u8 b, .int .u8 c] 23)) (w.heap.size + 1) [.int .i64 p, .int .i64 q] := by have := (Vb.new 52 (w.alloc (.cells #[.int .i64 x.v, .int .i64 x.m, .int .u8 x.b0, .int .u8 x.b1, .int .u8 x.b2, .int .u8 x.i0, .int .u8 x.i1, .int .u8 x.i2, .int .i64 y.v, .int .i64 y.m, .int .u8 y.b0, .int .u8 y.b1, .int .u8 y.b2, .int .u8 y.i0, .int .u8 y.i1, .int .u8 y.i2] 62)) [.int .i64 p, .int .i64 q]).alloc (.cells #[.int .u8 a, .int .u8 b, .int .u8 c] 23); simpa using this
  have hh : Vb 23 (((w.alloc (.cells #[.int .i64 x.v, .int .i64 x.m, .int .u8 x.b0, .int .u8 x.b1, .int .u8 x.b2, .int .u8 x.i0, .int .u8 x.i1, .int .u8 x.i2, .int .i64 y.v, .int .i64 y.m, .int .u8 y.b0, .int .u8 y.b1, .int .u8 y.b2, .int .u8 y.i0, .int .u8 y.i1, .int .u8 y.i2] 62)).alloc (.cells #[.int .i64 p, .int .i64 q] 52)).alloc (.cells #[.int .u8 a, .int .u8 b, .int .u8 c] 23)) (w.heap.size + 2) [.int .u8 a, .int .u8 b, .int .u8 c] := by have := Vb.new 23 ((w.alloc (.cells #[.int .i64 x.v, .int .i64 x.m, .int .u8 x.b0, .int .u8 x.b1, .int .u8 x.b2, .int .u8 x.i0, .int .u8 x.i1, .int .u8 x.i2, .int .i64 y.v, .int .i64 y.m, .int .u8 y.b0, .int .u8 y.b1, .int .u8 y.b2, .int .u8 y.i0, .int .u8 y.i1, .int .u8 y.i2] 62)).alloc (.cells #[.int .i64 p, .int .i64 q] 52)) [.int .u8 a, .int .u8 b, .int .u8 c]; simpa using this
  have hB := (below_two w (.cells #[.int .i64 x.v, .int .i64 x.m, .int .u8 x.b0, .int .u8 x.b1, .int .u8 x.b2, .int .u8 x.i0, .int .u8 x.i1, .int .u8 x.i2, .int .i64 y.v, .int .i64 y.m, .int .u8 y.b0, .int .u8 y.b1, .int .u8 y.b2, .int .u8 y.i0, .int .u8 y.i1, .int .u8 y.i2] 62) (.cells #[.int .i64 p, .int .i64 q] 52)).alloc (by simp; omega) (.cells #[.int .u8 a, .int .u8 b, .int .u8 c] 23)
  have Hny := Kp.mk (near_y y p q a b c)
  have Hnx := Kp.mk (near_x x y p q a b c)
  have Hty := Kp.mk (turn_y x y p q a b c)
  have Htx := Kp.mk (turn_x x y p q a b c)
  have Hxx := Kp.mk ((coversP_is x x x8.1 x8.2.1 x8.2.2.1).trans ((coversR_iff x x).2 (covers_same x)))
  have Hax := Kp.mk ((coversP_is anyM x x8.1 x8.2.1 x8.2.2.1).trans ((coversR_iff anyM x).2 (covers_any_ x)))
  have Hxy := Kp.mk (coversP_is x y y8.1 y8.2.1 y8.2.2.1)
  clear x8 y8
  go_enter Try.func12, Try.ntmps12
  go_upto_region 1 with fail
  generalize ((w.alloc (.cells #[.int .i64 x.v, .int .i64 x.m, .int .u8 x.b0, .int .u8 x.b1, .int .u8 x.b2, .int .u8 x.i0, .int .u8 x.i1, .int .u8 x.i2, .int .i64 y.v, .int .i64 y.m, .int .u8 y.b0, .int .u8 y.b1, .int .u8 y.b2, .int .u8 y.i0, .int .u8 y.i1, .int .u8 y.i2] 62)).alloc (.cells #[.int .i64 p, .int .i64 q] 52)).alloc (.cells #[.int .u8 a, .int .u8 b, .int .u8 c] 23) = w0 at *
  go_cut [7, 8] from 12 (fun v v' wx => ∃ g1 g2, w.heap.size + 2 < g1 ∧ w.heap.size + 2 < g2 ∧ g1 ≠ g2 ∧ v = .pointer (some ⟨g1, 0, none⟩) ∧ v' = .pointer (some ⟨g2, 0, none⟩) ∧ Vb 25 wx g1 [.int .i64 x.v, .int .i64 x.m, .int .u8 x.b0, .int .u8 x.b1, .int .u8 x.b2, .int .u8 x.i0, .int .u8 x.i1, .int .u8 x.i2] ∧ Vb 25 wx g2 [.int .i64 y.v, .int .i64 y.m, .int .u8 y.b0, .int .u8 y.b1, .int .u8 y.b2, .int .u8 y.i0, .int .u8 y.i1, .int .u8 y.i2] ∧ Vb 52 wx (w.heap.size + 1) [.int .i64 p, .int .i64 q] ∧ Vb 23 wx (w.heap.size + 2) [.int .u8 a, .int .u8 b, .int .u8 c] ∧ Below w.heap.size w wx)
  case first =>
    replace hB : Below w.heap.size w w0.drew := hB.drew
    have hlt : w.heap.size + 2 < w0.drew.heap.size := hh.lt
    have hS0 : (fun W => Vb 62 W w.heap.size [.int .i64 x.v, .int .i64 x.m, .int .u8 x.b0, .int .u8 x.b1, .int .u8 x.b2, .int .u8 x.i0, .int .u8 x.i1, .int .u8 x.i2, .int .i64 y.v, .int .i64 y.m, .int .u8 y.b0, .int .u8 y.b1, .int .u8 y.b2, .int .u8 y.i0, .int .u8 y.i1, .int .u8 y.i2] ∧ Vb 52 W (w.heap.size + 1) [.int .i64 p, .int .i64 q] ∧ Vb 23 W (w.heap.size + 2) [.int .u8 a, .int .u8 b, .int .u8 c]) w0.drew := ⟨hl, ht, hh⟩
    refine wp_region_held_drew (S := fun W => Vb 62 W w.heap.size [.int .i64 x.v, .int .i64 x.m, .int .u8 x.b0, .int .u8 x.b1, .int .u8 x.b2, .int .u8 x.i0, .int .u8 x.i1, .int .u8 x.i2, .int .i64 y.v, .int .i64 y.m, .int .u8 y.b0, .int .u8 y.b1, .int .u8 y.b2, .int .u8 y.i0, .int .u8 y.i1, .int .u8 y.i2] ∧ Vb 52 W (w.heap.size + 1) [.int .i64 p, .int .i64 q] ∧ Vb 23 W (w.heap.size + 2) [.int .u8 a, .int .u8 b, .int .u8 c]) (by kernel_rfl) hS0 (fun _ => ?_)
    clear hl ht hh
    generalize w0.drew = u0 at *
    refine takeD (i := 0) (v := .pointer (some ⟨w.heap.size, 0, none⟩)) (some 12) rfl rfl (by kernel_rfl) (by kernel_rfl) (by kernel_rfl) (fun _ _ _ h => h) (Or.inl ⟨by rfl, ?_⟩) hS0 ?_
    · rintro w' _
      go_simp
    try simp only [Act.put, List.setIfInBounds_toArray, List.set_cons_zero, List.set_cons_succ]
    refine takeD (i := 1) (v := .agg #[.int .i64 x.v, .int .i64 x.m, .int .u8 x.b0, .int .u8 x.b1, .int .u8 x.b2, .int .u8 x.i0, .int .u8 x.i1, .int .u8 x.i2]) (some 13) rfl rfl (by kernel_rfl) (by kernel_rfl) (by kernel_rfl) (fun _ _ _ h => h) (Or.inl ⟨by rfl, ?_⟩) hS0 ?_
    · rintro w' ⟨s0, s1, s2⟩
      have d0 := s0.cell 0 rfl
      have d1 := s0.cell 1 rfl
      have d2 := s0.cell 2 rfl
      have d3 := s0.cell 3 rfl
      have d4 := s0.cell 4 rfl
      have d5 := s0.cell 5 rfl
      have d6 := s0.cell 6 rfl
      have d7 := s0.cell 7 rfl
      go_simp
    try simp only [Act.put, List.setIfInBounds_toArray, List.set_cons_zero, List.set_cons_succ]
    refine takeD (i := 2) (v := .pointer (some ⟨w.heap.size, 8, none⟩)) (some 14) rfl rfl (by kernel_rfl) (by kernel_rfl) (by kernel_rfl) (fun _ _ _ h => h) (Or.inl ⟨by rfl, ?_⟩) hS0 ?_
    · rintro w' _
      go_simp
    try simp only [Act.put, List.setIfInBounds_toArray, List.set_cons_zero, List.set_cons_succ]
    refine takeD (i := 3) (v := .agg #[.int .i64 y.v, .int .i64 y.m, .int .u8 y.b0, .int .u8 y.b1, .int .u8 y.b2, .int .u8 y.i0, .int .u8 y.i1, .int .u8 y.i2]) (some 15) rfl rfl (by kernel_rfl) (by kernel_rfl) (by kernel_rfl) (fun _ _ _ h => h) (Or.inl ⟨by rfl, ?_⟩) hS0 ?_
    · rintro w' ⟨s0, s1, s2⟩
      have d0 := s0.cell 8 rfl
      have d1 := s0.cell 9 rfl
      have d2 := s0.cell 10 rfl
      have d3 := s0.cell 11 rfl
      have d4 := s0.cell 12 rfl
      have d5 := s0.cell 13 rfl
      have d6 := s0.cell 14 rfl
      have d7 := s0.cell 15 rfl
      go_simp
    try simp only [Act.put, List.setIfInBounds_toArray, List.set_cons_zero, List.set_cons_succ]
    refine wpAnyH_ready (rs := [4, 5]) (by kernel_rfl) (by simp) ?_
    refine AllReadyH.cons rfl (fun K hK => ?_) (AllReadyH.cons rfl (fun K hK => ?_) AllReadyH.nil)
    · try rw [if_pos (by rfl)]
      go_simp
      have b1 := below_alloc u0 (.cells #[.int .i64 0, .int .i64 0, .int .u8 0, .int .u8 0, .int .u8 0, .int .u8 0, .int .u8 0, .int .u8 0] 25)
      have h7 : Vb 25 (u0.alloc (.cells #[.int .i64 0, .int .i64 0, .int .u8 0, .int .u8 0, .int .u8 0, .int .u8 0, .int .u8 0, .int .u8 0] 25)) u0.heap.size [.int .i64 0, .int .i64 0, .int .u8 0, .int .u8 0, .int .u8 0, .int .u8 0, .int .u8 0, .int .u8 0] := Vb.new 25 u0 [.int .i64 0, .int .i64 0, .int .u8 0, .int .u8 0, .int .u8 0, .int .u8 0, .int .u8 0, .int .u8 0]
      have z1 : u0.heap.size < (u0.alloc (.cells #[.int .i64 0, .int .i64 0, .int .u8 0, .int .u8 0, .int .u8 0, .int .u8 0, .int .u8 0, .int .u8 0] 25)).heap.size := h7.lt
      have hB1 := hB.trans (b1.mono hB.size)
      refine hK.out _ _ (⟨hS0.1.below b1 hS0.1.lt, hS0.2.1.below b1 hS0.2.1.lt, hS0.2.2.below b1 hS0.2.2.lt⟩) (fun hS1 => ?_)
      clear hK K
      try simp only [Act.put, List.setIfInBounds_toArray, List.set_cons_zero, List.set_cons_succ]
      clear b1
      generalize u0.alloc (.cells #[.int .i64 0, .int .i64 0, .int .u8 0, .int .u8 0, .int .u8 0, .int .u8 0, .int .u8 0, .int .u8 0] 25) = u1 at *
      generalize u0.heap.size = g1 at *
      refine wpAnyH_ready (rs := [5]) (by kernel_rfl) (by simp) ?_
      refine AllReadyH.cons rfl (fun K hK => ?_) AllReadyH.nil
      try rw [if_pos (by rfl)]
      go_simp
      have b2 := below_alloc u1 (.cells #[.int .i64 0, .int .i64 0, .int .u8 0, .int .u8 0, .int .u8 0, .int .u8 0, .int .u8 0, .int .u8 0] 25)
      have h8 : Vb 25 (u1.alloc (.cells #[.int .i64 0, .int .i64 0, .int .u8 0, .int .u8 0, .int .u8 0, .int .u8 0, .int .u8 0, .int .u8 0] 25)) u1.heap.size [.int .i64 0, .int .i64 0, .int .u8 0, .int .u8 0, .int .u8 0, .int .u8 0, .int .u8 0, .int .u8 0] := Vb.new 25 u1 [.int .i64 0, .int .i64 0, .int .u8 0, .int .u8 0, .int .u8 0, .int .u8 0, .int .u8 0, .int .u8 0]
      replace h7 := h7.below b2 h7.lt
      have hB2 := hB1.trans (b2.mono hB1.size)
      refine hK.out _ _ (⟨hS1.1.below b2 hS1.1.lt, hS1.2.1.below b2 hS1.2.1.lt, hS1.2.2.below b2 hS1.2.2.lt⟩) (fun hS2 => ?_)
      clear hK K b2
      try simp only [Act.put, List.setIfInBounds_toArray, List.set_cons_zero, List.set_cons_succ]
      generalize u1.alloc (.cells #[.int .i64 0, .int .i64 0, .int .u8 0, .int .u8 0, .int .u8 0, .int .u8 0, .int .u8 0, .int .u8 0] 25) = u2 at *
      generalize u1.heap.size = g2 at *
      clear hS0 hS1 hB1
      refine wpAnyH_ready (rs := [6]) (by kernel_rfl) (by simp) ?_
      refine AllReadyH.cons rfl (fun K hK => ?_) AllReadyH.nil
      try rw [if_pos (by rfl)]
      refine wp_store_vb (vs := [.int .i64 x.v, .int .i64 x.m, .int .u8 x.b0, .int .u8 x.b1, .int .u8 x.b2, .int .u8 x.i0, .int .u8 x.i1, .int .u8 x.i2]) none rfl (.tmp 7) (.tmp 13) rfl rfl rfl h7 rfl agg_mask rfl ?_
      intro u3 h7' hg hz
      replace h8 := h8.grown hg (by omega)
      have hB3 := hB2.grown hg (by have := h7.lt; omega) (fun k e => by simp at e; omega)
      have hS3 := And.intro (hS2.1.grown hg (by omega)) (And.intro (hS2.2.1.grown hg (by omega)) (hS2.2.2.grown hg (by omega)))
      refine hK.out _ _ hS3 (fun _ => ?_)
      clear hK K hg hz hS2 hB2 h7
      try simp only [Act.put, List.setIfInBounds_toArray, List.set_cons_zero, List.set_cons_succ]
      refine wpAnyH_ready (rs := [7]) (by kernel_rfl) (by simp) ?_
      refine AllReadyH.cons rfl (fun K hK => ?_) AllReadyH.nil
      try rw [if_pos (by rfl)]
      refine wp_store_vb (vs := [.int .i64 y.v, .int .i64 y.m, .int .u8 y.b0, .int .u8 y.b1, .int .u8 y.b2, .int .u8 y.i0, .int .u8 y.i1, .int .u8 y.i2]) none rfl (.tmp 8) (.tmp 15) rfl rfl rfl h8 rfl agg_mask rfl ?_
      intro u4 h8' hg hz
      replace h7' := h7'.grown hg (by omega)
      have hB4 := hB3.grown hg (by have := h8.lt; omega) (fun k e => by simp at e; omega)
      have hS4 := And.intro (hS3.1.grown hg (by omega)) (And.intro (hS3.2.1.grown hg (by omega)) (hS3.2.2.grown hg (by omega)))
      refine hK.out _ _ hS4 (fun _ => ?_)
      clear hK K hg hz hS3 hB3 h8
      try simp only [Act.put, List.setIfInBounds_toArray, List.set_cons_zero, List.set_cons_succ]
      refine wpAnyH_done (by kernel_rfl) ?_ _
      go_wp2_with fail
      go_meet
      case rel => exact ⟨g1, g2, by omega, by omega, by omega, rfl, rfl, h7', h8', hS4.2.1, hS4.2.2, hB4⟩
    · try rw [if_pos (by rfl)]
      go_simp
      have b1 := below_alloc u0 (.cells #[.int .i64 0, .int .i64 0, .int .u8 0, .int .u8 0, .int .u8 0, .int .u8 0, .int .u8 0, .int .u8 0] 25)
      have h8 : Vb 25 (u0.alloc (.cells #[.int .i64 0, .int .i64 0, .int .u8 0, .int .u8 0, .int .u8 0, .int .u8 0, .int .u8 0, .int .u8 0] 25)) u0.heap.size [.int .i64 0, .int .i64 0, .int .u8 0, .int .u8 0, .int .u8 0, .int .u8 0, .int .u8 0, .int .u8 0] := Vb.new 25 u0 [.int .i64 0, .int .i64 0, .int .u8 0, .int .u8 0, .int .u8 0, .int .u8 0, .int .u8 0, .int .u8 0]
      have z1 : u0.heap.size < (u0.alloc (.cells #[.int .i64 0, .int .i64 0, .int .u8 0, .int .u8 0, .int .u8 0, .int .u8 0, .int .u8 0, .int .u8 0] 25)).heap.size := h8.lt
      have hB1 := hB.trans (b1.mono hB.size)
      refine hK.out _ _ (⟨hS0.1.below b1 hS0.1.lt, hS0.2.1.below b1 hS0.2.1.lt, hS0.2.2.below b1 hS0.2.2.lt⟩) (fun hS1 => ?_)
      clear hK K
      try simp only [Act.put, List.setIfInBounds_toArray, List.set_cons_zero, List.set_cons_succ]
      clear b1
      generalize u0.alloc (.cells #[.int .i64 0, .int .i64 0, .int .u8 0, .int .u8 0, .int .u8 0, .int .u8 0, .int .u8 0, .int .u8 0] 25) = u1 at *
      generalize u0.heap.size = g2 at *
      refine wpAnyH_ready (rs := [4]) (by kernel_rfl) (by simp) ?_
      refine AllReadyH.cons rfl (fun K hK => ?_) AllReadyH.nil
      try rw [if_pos (by rfl)]
      go_simp
      have b2 := below_alloc u1 (.cells #[.int .i64 0, .int .i64 0, .int .u8 0, .int .u8 0, .int .u8 0, .int .u8 0, .int .u8 0, .int .u8 0] 25)
      have h7 : Vb 25 (u1.alloc (.cells #[.int .i64 0, .int .i64 0, .int .u8 0, .int .u8 0, .int .u8 0, .int .u8 0, .int .u8 0, .int .u8 0] 25)) u1.heap.size [.int .i64 0, .int .i64 0, .int .u8 0, .int .u8 0, .int .u8 0, .int .u8 0, .int .u8 0, .int .u8 0] := Vb.new 25 u1 [.int .i64 0, .int .i64 0, .int .u8 0, .int .u8 0, .int .u8 0, .int .u8 0, .int .u8 0, .int .u8 0]
      replace h8 := h8.below b2 h8.lt
      have hB2 := hB1.trans (b2.mono hB1.size)
      refine hK.out _ _ (⟨hS1.1.below b2 hS1.1.lt, hS1.2.1.below b2 hS1.2.1.lt, hS1.2.2.below b2 hS1.2.2.lt⟩) (fun hS2 => ?_)
      clear hK K b2
      try simp only [Act.put, List.setIfInBounds_toArray, List.set_cons_zero, List.set_cons_succ]
      generalize u1.alloc (.cells #[.int .i64 0, .int .i64 0, .int .u8 0, .int .u8 0, .int .u8 0, .int .u8 0, .int .u8 0, .int .u8 0] 25) = u2 at *
      generalize u1.heap.size = g1 at *
      clear hS0 hS1 hB1
      refine wpAnyH_ready (rs := [6]) (by kernel_rfl) (by simp) ?_
      refine AllReadyH.cons rfl (fun K hK => ?_) AllReadyH.nil
      try rw [if_pos (by rfl)]
      refine wp_store_vb (vs := [.int .i64 x.v, .int .i64 x.m, .int .u8 x.b0, .int .u8 x.b1, .int .u8 x.b2, .int .u8 x.i0, .int .u8 x.i1, .int .u8 x.i2]) none rfl (.tmp 7) (.tmp 13) rfl rfl rfl h7 rfl agg_mask rfl ?_
      intro u3 h7' hg hz
      replace h8 := h8.grown hg (by omega)
      have hB3 := hB2.grown hg (by have := h7.lt; omega) (fun k e => by simp at e; omega)
      have hS3 := And.intro (hS2.1.grown hg (by omega)) (And.intro (hS2.2.1.grown hg (by omega)) (hS2.2.2.grown hg (by omega)))
      refine hK.out _ _ hS3 (fun _ => ?_)
      clear hK K hg hz hS2 hB2 h7
      try simp only [Act.put, List.setIfInBounds_toArray, List.set_cons_zero, List.set_cons_succ]
      refine wpAnyH_ready (rs := [7]) (by kernel_rfl) (by simp) ?_
      refine AllReadyH.cons rfl (fun K hK => ?_) AllReadyH.nil
      try rw [if_pos (by rfl)]
      refine wp_store_vb (vs := [.int .i64 y.v, .int .i64 y.m, .int .u8 y.b0, .int .u8 y.b1, .int .u8 y.b2, .int .u8 y.i0, .int .u8 y.i1, .int .u8 y.i2]) none rfl (.tmp 8) (.tmp 15) rfl rfl rfl h8 rfl agg_mask rfl ?_
      intro u4 h8' hg hz
      replace h7' := h7'.grown hg (by omega)
      have hB4 := hB3.grown hg (by have := h8.lt; omega) (fun k e => by simp at e; omega)
      have hS4 := And.intro (hS3.1.grown hg (by omega)) (And.intro (hS3.2.1.grown hg (by omega)) (hS3.2.2.grown hg (by omega)))
      refine hK.out _ _ hS4 (fun _ => ?_)
      clear hK K hg hz hS3 hB3 h8
      try simp only [Act.put, List.setIfInBounds_toArray, List.set_cons_zero, List.set_cons_succ]
      refine wpAnyH_done (by kernel_rfl) ?_ _
      go_wp2_with fail
      go_meet
      case rel => exact ⟨g1, g2, by omega, by omega, by omega, rfl, rfl, h7', h8', hS4.2.1, hS4.2.2, hB4⟩
  case rest =>
    clear hl ht hh hB
    obtain ⟨g1, g2, l1, l2, l3, rfl, rfl, h7, h8, ht, hh, hB⟩ := hcut
    have hf := ht.free
    have t0 := ht.cell 0 rfl
    have c0 := h8.cell 0 rfl
    go_upto_if 18 with fail
    go_cut [] from 19 (fun wx => Vb 25 wx g1 [.int .i64 x.v, .int .i64 x.m, .int .u8 x.b0, .int .u8 x.b1, .int .u8 x.b2, .int .u8 x.i0, .int .u8 x.i1, .int .u8 x.i2] ∧ Vb 25 wx g2 [.int .i64 y.v, .int .i64 y.m, .int .u8 y.b0, .int .u8 y.b1, .int .u8 y.b2, .int .u8 y.i0, .int .u8 y.i1, .int .u8 y.i2] ∧ Vb 52 wx (w.heap.size + 1) [.int .i64 (toN y.v 0 p), .int .i64 q] ∧ Vb 23 wx (w.heap.size + 2) [.int .u8 a, .int .u8 b, .int .u8 c] ∧ Below w.heap.size w wx)
    case first => as_aux_lemma =>
      by_cases hv : y.v = 0
      · have hq : (y.v != 0) = false := by simpa using hv
        have st : Vb 52 wc (w.heap.size + 1) [.int .i64 (toN y.v 0 p), .int .i64 q] := by
          rw [show (toN y.v 0 p) = p from if_pos hv]
          exact ht
        have Hr := Kp.mk (And.intro h7 (And.intro h8 (And.intro st (And.intro hh hB))))
        clear st h7 h8 ht hh hB hv
        go_wp2_with fail
        go_meet
        case rel => exact Hr.out
      · have hq : (y.v != 0) = true := by simpa using hv
        have st : Vb 52 (wc.setCell ⟨w.heap.size + 1, 0, none⟩ (.int .i64 y.v)) (w.heap.size + 1) [.int .i64 (toN y.v 0 p), .int .i64 q] := by
          rw [show (toN y.v 0 p) = y.v from if_neg hv]
          exact ht.set 0 _
        have s_h7 := h7.other (r := w.heap.size + 1) (by omega) 0 (.int .i64 y.v)
        have s_h8 := h8.other (r := w.heap.size + 1) (by omega) 0 (.int .i64 y.v)
        have s_hh := hh.other (r := w.heap.size + 1) (by omega) 0 (.int .i64 y.v)
        have s_B := hB.setCell (p := ⟨w.heap.size + 1, 0, none⟩) (by simp) (.int .i64 y.v)
        have Hr := Kp.mk (And.intro s_h7 (And.intro s_h8 (And.intro st (And.intro s_hh s_B))))
        clear st s_h7 s_h8 s_hh s_B h7 h8 ht hh hB hv
        go_wp2_with fail
        go_meet
        case rel => exact Hr.out
    clear h7 h8 ht hh hB hf t0 c0
    obtain ⟨h7, h8, ht, hh, hB⟩ := hcut
    have hf := ht.free
    have t1 := ht.cell 1 rfl
    have c0 := h8.cell 1 rfl
    go_upto_if 24 with fail
    go_cut [] from 25 (fun wx => Vb 25 wx g1 [.int .i64 x.v, .int .i64 x.m, .int .u8 x.b0, .int .u8 x.b1, .int .u8 x.b2, .int .u8 x.i0, .int .u8 x.i1, .int .u8 x.i2] ∧ Vb 25 wx g2 [.int .i64 y.v, .int .i64 y.m, .int .u8 y.b0, .int .u8 y.b1, .int .u8 y.b2, .int .u8 y.i0, .int .u8 y.i1, .int .u8 y.i2] ∧ Vb 52 wx (w.heap.size + 1) [.int .i64 (toN y.v 0 p), .int .i64 (toN y.m (-1) q)] ∧ Vb 23 wx (w.heap.size + 2) [.int .u8 a, .int .u8 b, .int .u8 c] ∧ Below w.heap.size w wx)
    case first => as_aux_lemma =>
      by_cases hv : y.m = (-1)
      · have hq : (y.m != (-1)) = false := by simpa using hv
        have st : Vb 52 wc (w.heap.size + 1) [.int .i64 (toN y.v 0 p), .int .i64 (toN y.m (-1) q)] := by
          rw [show (toN y.m (-1) q) = q from if_pos hv]
          exact ht
        have Hr := Kp.mk (And.intro h7 (And.intro h8 (And.intro st (And.intro hh hB))))
        clear st h7 h8 ht hh hB hv
        go_wp2_with fail
        go_meet
        case rel => exact Hr.out
      · have hq : (y.m != (-1)) = true := by simpa using hv
        have st : Vb 52 (wc.setCell ⟨w.heap.size + 1, 1, none⟩ (.int .i64 y.m)) (w.heap.size + 1) [.int .i64 (toN y.v 0 p), .int .i64 (toN y.m (-1) q)] := by
          rw [show (toN y.m (-1) q) = y.m from if_neg hv]
          exact ht.set 1 _
        have s_h7 := h7.other (r := w.heap.size + 1) (by omega) 1 (.int .i64 y.m)
        have s_h8 := h8.other (r := w.heap.size + 1) (by omega) 1 (.int .i64 y.m)
        have s_hh := hh.other (r := w.heap.size + 1) (by omega) 1 (.int .i64 y.m)
        have s_B := hB.setCell (p := ⟨w.heap.size + 1, 1, none⟩) (by simp) (.int .i64 y.m)
        have Hr := Kp.mk (And.intro s_h7 (And.intro s_h8 (And.intro st (And.intro s_hh s_B))))
        clear st s_h7 s_h8 s_hh s_B h7 h8 ht hh hB hv
        go_wp2_with fail
        go_meet
        case rel => exact Hr.out
    clear h7 h8 ht hh hB hf t1 c0
    obtain ⟨h7, h8, ht, hh, hB⟩ := hcut
    go_wp2_with fail
    refine wp_loop_rounds (3 + 1) ?_
    rw [rounds_succ]
    obtain ⟨d0, d1, d2, d3, d4, d5, d6, d7⟩ := h8.c8
    have a0 := hh.cell 0 rfl
    have a1 := hh.cell 1 rfl
    have a2 := hh.cell 2 rfl
    have hf := hh.free
    go_upto_region 9 with fail
    go_still_tail 20, (by kernel_rfl)
    clear a0 a1 a2 hf d0 d1 d2 d3 d4 d5 d6 d7
    replace h7 : Vb 25 wc.drew g1 [.int .i64 x.v, .int .i64 x.m, .int .u8 x.b0, .int .u8 x.b1, .int .u8 x.b2, .int .u8 x.i0, .int .u8 x.i1, .int .u8 x.i2] := h7
    replace h8 : Vb 25 wc.drew g2 [.int .i64 y.v, .int .i64 y.m, .int .u8 y.b0, .int .u8 y.b1, .int .u8 y.b2, .int .u8 y.i0, .int .u8 y.i1, .int .u8 y.i2] := h8
    replace ht : Vb 52 wc.drew (w.heap.size + 1) [.int .i64 (toN y.v 0 p), .int .i64 (toN y.m (-1) q)] := ht
    replace hh : Vb 23 wc.drew (w.heap.size + 2) [.int .u8 a, .int .u8 b, .int .u8 c] := hh
    replace hB : Below w.heap.size w wc.drew := hB.drew
    change wpList _ _ _ _ _ wc.drew
    generalize wc.drew = m0d at *
    have hf := hh.free
    have a0 := hh.cell 0 rfl
    have s_h7 := h7.other (r := w.heap.size + 2) (by omega) 0 (.int .u8 (bits .or .u8 (bits .andNot .u8 a y.b0) (bits .and .u8 y.i0 y.b0)))
    have s_h8 := h8.other (r := w.heap.size + 2) (by omega) 0 (.int .u8 (bits .or .u8 (bits .andNot .u8 a y.b0) (bits .and .u8 y.i0 y.b0)))
    have s_ht := ht.other (r := w.heap.size + 2) (by omega) 0 (.int .u8 (bits .or .u8 (bits .andNot .u8 a y.b0) (bits .and .u8 y.i0 y.b0)))
    have s_hh : Vb 23 (m0d.setCell ⟨w.heap.size + 2, 0, none⟩ (.int .u8 (bits .or .u8 (bits .andNot .u8 a y.b0) (bits .and .u8 y.i0 y.b0)))) (w.heap.size + 2) [.int .u8 (near a y.i0 y.b0), .int .u8 b, .int .u8 c] := hh.set 0 _
    have s_B := hB.setCell (p := ⟨w.heap.size + 2, 0, none⟩) (by simp) (.int .u8 (bits .or .u8 (bits .andNot .u8 a y.b0) (bits .and .u8 y.i0 y.b0)))
    clear h7 h8 ht hh hB
    go_wp2_with fail
    clear hf a0
    have h7 := s_h7
    have h8 := s_h8
    have ht := s_ht
    have hh := s_hh
    have hB := s_B
    clear s_h7 s_h8 s_ht s_hh s_B
    generalize m0d.setCell ⟨w.heap.size + 2, 0, none⟩ (.int .u8 (bits .or .u8 (bits .andNot .u8 a y.b0) (bits .and .u8 y.i0 y.b0))) = m0e at *
    rw [rounds_succ]
    obtain ⟨d0, d1, d2, d3, d4, d5, d6, d7⟩ := h8.c8
    have a0 := hh.cell 0 rfl
    have a1 := hh.cell 1 rfl
    have a2 := hh.cell 2 rfl
    have hf := hh.free
    go_upto_region 9 with fail
    go_still_tail 20, (by kernel_rfl)
    clear a0 a1 a2 hf d0 d1 d2 d3 d4 d5 d6 d7
    replace h7 : Vb 25 m0e.drew g1 [.int .i64 x.v, .int .i64 x.m, .int .u8 x.b0, .int .u8 x.b1, .int .u8 x.b2, .int .u8 x.i0, .int .u8 x.i1, .int .u8 x.i2] := h7
    replace h8 : Vb 25 m0e.drew g2 [.int .i64 y.v, .int .i64 y.m, .int .u8 y.b0, .int .u8 y.b1, .int .u8 y.b2, .int .u8 y.i0, .int .u8 y.i1, .int .u8 y.i2] := h8
    replace ht : Vb 52 m0e.drew (w.heap.size + 1) [.int .i64 (toN y.v 0 p), .int .i64 (toN y.m (-1) q)] := ht
    replace hh : Vb 23 m0e.drew (w.heap.size + 2) [.int .u8 (near a y.i0 y.b0), .int .u8 b, .int .u8 c] := hh
    replace hB : Below w.heap.size w m0e.drew := hB.drew
    change wpList _ _ _ _ _ m0e.drew
    generalize m0e.drew = m1d at *
    have hf := hh.free
    have a1 := hh.cell 1 rfl
    have s_h7 := h7.other (r := w.heap.size + 2) (by omega) 1 (.int .u8 (bits .or .u8 (bits .andNot .u8 b y.b1) (bits .and .u8 y.i1 y.b1)))
    have s_h8 := h8.other (r := w.heap.size + 2) (by omega) 1 (.int .u8 (bits .or .u8 (bits .andNot .u8 b y.b1) (bits .and .u8 y.i1 y.b1)))
    have s_ht := ht.other (r := w.heap.size + 2) (by omega) 1 (.int .u8 (bits .or .u8 (bits .andNot .u8 b y.b1) (bits .and .u8 y.i1 y.b1)))
    have s_hh : Vb 23 (m1d.setCell ⟨w.heap.size + 2, 1, none⟩ (.int .u8 (bits .or .u8 (bits .andNot .u8 b y.b1) (bits .and .u8 y.i1 y.b1)))) (w.heap.size + 2) [.int .u8 (near a y.i0 y.b0), .int .u8 (near b y.i1 y.b1), .int .u8 c] := hh.set 1 _
    have s_B := hB.setCell (p := ⟨w.heap.size + 2, 1, none⟩) (by simp) (.int .u8 (bits .or .u8 (bits .andNot .u8 b y.b1) (bits .and .u8 y.i1 y.b1)))
    clear h7 h8 ht hh hB
    go_wp2_with fail
    clear hf a1
    have h7 := s_h7
    have h8 := s_h8
    have ht := s_ht
    have hh := s_hh
    have hB := s_B
    clear s_h7 s_h8 s_ht s_hh s_B
    generalize m1d.setCell ⟨w.heap.size + 2, 1, none⟩ (.int .u8 (bits .or .u8 (bits .andNot .u8 b y.b1) (bits .and .u8 y.i1 y.b1))) = m1e at *
    rw [rounds_succ]
    obtain ⟨d0, d1, d2, d3, d4, d5, d6, d7⟩ := h8.c8
    have a0 := hh.cell 0 rfl
    have a1 := hh.cell 1 rfl
    have a2 := hh.cell 2 rfl
    have hf := hh.free
    go_upto_region 9 with fail
    go_still_tail 20, (by kernel_rfl)
    clear a0 a1 a2 hf d0 d1 d2 d3 d4 d5 d6 d7
    replace h7 : Vb 25 m1e.drew g1 [.int .i64 x.v, .int .i64 x.m, .int .u8 x.b0, .int .u8 x.b1, .int .u8 x.b2, .int .u8 x.i0, .int .u8 x.i1, .int .u8 x.i2] := h7
    replace h8 : Vb 25 m1e.drew g2 [.int .i64 y.v, .int .i64 y.m, .int .u8 y.b0, .int .u8 y.b1, .int .u8 y.b2, .int .u8 y.i0, .int .u8 y.i1, .int .u8 y.i2] := h8
    replace ht : Vb 52 m1e.drew (w.heap.size + 1) [.int .i64 (toN y.v 0 p), .int .i64 (toN y.m (-1) q)] := ht
    replace hh : Vb 23 m1e.drew (w.heap.size + 2) [.int .u8 (near a y.i0 y.b0), .int .u8 (near b y.i1 y.b1), .int .u8 c] := hh
    replace hB : Below w.heap.size w m1e.drew := hB.drew
    change wpList _ _ _ _ _ m1e.drew
    generalize m1e.drew = m2d at *
    have hf := hh.free
    have a2 := hh.cell 2 rfl
    have s_h7 := h7.other (r := w.heap.size + 2) (by omega) 2 (.int .u8 (bits .or .u8 (bits .andNot .u8 c y.b2) (bits .and .u8 y.i2 y.b2)))
    have s_h8 := h8.other (r := w.heap.size + 2) (by omega) 2 (.int .u8 (bits .or .u8 (bits .andNot .u8 c y.b2) (bits .and .u8 y.i2 y.b2)))
    have s_ht := ht.other (r := w.heap.size + 2) (by omega) 2 (.int .u8 (bits .or .u8 (bits .andNot .u8 c y.b2) (bits .and .u8 y.i2 y.b2)))
    have s_hh : Vb 23 (m2d.setCell ⟨w.heap.size + 2, 2, none⟩ (.int .u8 (bits .or .u8 (bits .andNot .u8 c y.b2) (bits .and .u8 y.i2 y.b2)))) (w.heap.size + 2) [.int .u8 (near a y.i0 y.b0), .int .u8 (near b y.i1 y.b1), .int .u8 (near c y.i2 y.b2)] := hh.set 2 _
    have s_B := hB.setCell (p := ⟨w.heap.size + 2, 2, none⟩) (by simp) (.int .u8 (bits .or .u8 (bits .andNot .u8 c y.b2) (bits .and .u8 y.i2 y.b2)))
    clear h7 h8 ht hh hB
    go_wp2_with fail
    clear hf a2
    have h7 := s_h7
    have h8 := s_h8
    have ht := s_ht
    have hh := s_hh
    have hB := s_B
    clear s_h7 s_h8 s_ht s_hh s_B
    generalize m2d.setCell ⟨w.heap.size + 2, 2, none⟩ (.int .u8 (bits .or .u8 (bits .andNot .u8 c y.b2) (bits .and .u8 y.i2 y.b2))) = m2e at *
    rw [rounds_succ]
    go_upto_region 10 with fail
    have Vy := Kp.mk (show fitsR y (toN y.v 0 p) (toN y.m (-1) q) (near a y.i0 y.b0) (near b y.i1 y.b1) (near c y.i2 y.b2) = true from Hny.out)
    replace hB : Below w.heap.size w m2e.drew := hB.drew
    go_cut [71] from 52 (fun v wx => v = .bool false ∧ Vb 25 wx g1 [.int .i64 x.v, .int .i64 x.m, .int .u8 x.b0, .int .u8 x.b1, .int .u8 x.b2, .int .u8 x.i0, .int .u8 x.i1, .int .u8 x.i2] ∧ Vb 25 wx g2 [.int .i64 y.v, .int .i64 y.m, .int .u8 y.b0, .int .u8 y.b1, .int .u8 y.b2, .int .u8 y.i0, .int .u8 y.i1, .int .u8 y.i2] ∧ Vb 52 wx (w.heap.size + 1) [.int .i64 (toN y.v 0 p), .int .i64 (toN y.m (-1) q)] ∧ Vb 23 wx (w.heap.size + 2) [.int .u8 (near a y.i0 y.b0), .int .u8 (near b y.i1 y.b1), .int .u8 (near c y.i2 y.b2)] ∧ Below w.heap.size w wx)
    case first => as_aux_lemma =>
      have hS0 : (fun W => Vb 25 W g1 [.int .i64 x.v, .int .i64 x.m, .int .u8 x.b0, .int .u8 x.b1, .int .u8 x.b2, .int .u8 x.i0, .int .u8 x.i1, .int .u8 x.i2] ∧ Vb 25 W g2 [.int .i64 y.v, .int .i64 y.m, .int .u8 y.b0, .int .u8 y.b1, .int .u8 y.b2, .int .u8 y.i0, .int .u8 y.i1, .int .u8 y.i2] ∧ Vb 52 W (w.heap.size + 1) [.int .i64 (toN y.v 0 p), .int .i64 (toN y.m (-1) q)] ∧ Vb 23 W (w.heap.size + 2) [.int .u8 (near a y.i0 y.b0), .int .u8 (near b y.i1 y.b1), .int .u8 (near c y.i2 y.b2)]) m2e.drew := ⟨h7, h8, ht, hh⟩
      refine wp_region_held_drew (S := fun W => Vb 25 W g1 [.int .i64 x.v, .int .i64 x.m, .int .u8 x.b0, .int .u8 x.b1, .int .u8 x.b2, .int .u8 x.i0, .int .u8 x.i1, .int .u8 x.i2] ∧ Vb 25 W g2 [.int .i64 y.v, .int .i64 y.m, .int .u8 y.b0, .int .u8 y.b1, .int .u8 y.b2, .int .u8 y.i0, .int .u8 y.i1, .int .u8 y.i2] ∧ Vb 52 W (w.heap.size + 1) [.int .i64 (toN y.v 0 p), .int .i64 (toN y.m (-1) q)] ∧ Vb 23 W (w.heap.size + 2) [.int .u8 (near a y.i0 y.b0), .int .u8 (near b y.i1 y.b1), .int .u8 (near c y.i2 y.b2)]) (by kernel_rfl) hS0 (fun _ => ?_)
      clear h7 h8 ht hh
      generalize m2e.drew = u0 at *
      refine takeD (i := 0) (v := .agg #[.int .i64 y.v, .int .i64 y.m, .int .u8 y.b0, .int .u8 y.b1, .int .u8 y.b2, .int .u8 y.i0, .int .u8 y.i1, .int .u8 y.i2]) (some 52) rfl rfl (by kernel_rfl) (by kernel_rfl) (by kernel_rfl) (fun _ _ _ h => h) (Or.inl ⟨by rfl, ?_⟩) hS0 ?_
      · rintro w' ⟨s0, s1, s2, s3⟩
        have d0 := s1.cell 0 rfl
        have d1 := s1.cell 1 rfl
        have d2 := s1.cell 2 rfl
        have d3 := s1.cell 3 rfl
        have d4 := s1.cell 4 rfl
        have d5 := s1.cell 5 rfl
        have d6 := s1.cell 6 rfl
        have d7 := s1.cell 7 rfl
        go_simp
      try simp only [Act.put, List.setIfInBounds_toArray, List.set_cons_zero, List.set_cons_succ]
      refine takeD (i := 1) (v := .pointer (some ⟨w.heap.size + 1, 0, none⟩)) (some 53) rfl rfl (by kernel_rfl) (by kernel_rfl) (by kernel_rfl) (fun _ _ _ h => h) (Or.inl ⟨by rfl, ?_⟩) hS0 ?_
      · rintro w' _
        go_simp
      try simp only [Act.put, List.setIfInBounds_toArray, List.set_cons_zero, List.set_cons_succ]
      refine takeD (i := 2) (v := .int .i64 (toN y.v 0 p)) (some 54) rfl rfl (by kernel_rfl) (by kernel_rfl) (by kernel_rfl) (fun _ _ _ h => h) (Or.inl ⟨by rfl, ?_⟩) hS0 ?_
      · rintro w' ⟨s0, s1, s2, s3⟩
        have d0 := s2.cell 0 rfl
        have d1 := s2.cell 1 rfl
        go_simp
      try simp only [Act.put, List.setIfInBounds_toArray, List.set_cons_zero, List.set_cons_succ]
      refine takeD (i := 3) (v := .pointer (some ⟨w.heap.size + 1, 1, none⟩)) (some 55) rfl rfl (by kernel_rfl) (by kernel_rfl) (by kernel_rfl) (fun _ _ _ h => h) (Or.inl ⟨by rfl, ?_⟩) hS0 ?_
      · rintro w' _
        go_simp
      try simp only [Act.put, List.setIfInBounds_toArray, List.set_cons_zero, List.set_cons_succ]
      refine takeD (i := 4) (v := .int .i64 (toN y.m (-1) q)) (some 56) rfl rfl (by kernel_rfl) (by kernel_rfl) (by kernel_rfl) (fun _ _ _ h => h) (Or.inl ⟨by rfl, ?_⟩) hS0 ?_
      · rintro w' ⟨s0, s1, s2, s3⟩
        have d0 := s2.cell 0 rfl
        have d1 := s2.cell 1 rfl
        go_simp
      try simp only [Act.put, List.setIfInBounds_toArray, List.set_cons_zero, List.set_cons_succ]
      refine takeD (i := 5) (v := .agg #[.int .u8 (near a y.i0 y.b0), .int .u8 (near b y.i1 y.b1), .int .u8 (near c y.i2 y.b2)]) (some 57) rfl rfl (by kernel_rfl) (by kernel_rfl) (by kernel_rfl) (fun _ _ _ h => h) (Or.inl ⟨by rfl, ?_⟩) hS0 ?_
      · rintro w' ⟨s0, s1, s2, s3⟩
        have d0 := s3.cell 0 rfl
        have d1 := s3.cell 1 rfl
        have d2 := s3.cell 2 rfl
        go_simp
      try simp only [Act.put, List.setIfInBounds_toArray, List.set_cons_zero, List.set_cons_succ]
      refine wpAnyH_ready (rs := [6]) (by kernel_rfl) (by simp) ?_
      refine AllReadyH.cons rfl (fun K hK => ?_) AllReadyH.nil
      try rw [if_pos (by rfl)]
      go_simp
      go_at_call 33
      refine (fitsM_any y (toN y.v 0 p) (toN y.m (-1) q) (near a y.i0 y.b0) (near b y.i1 y.b1) (near c y.i2 y.b2) _).mono ?_
      rw [fitsM_is, Vy.out]
      rintro e v1 ⟨rfl, hb1⟩
      have hB1 := hB.trans (hb1.mono hB.size)
      refine hK.out _ _ (⟨hS0.1.below hb1 hS0.1.lt, hS0.2.1.below hb1 hS0.2.1.lt, hS0.2.2.1.below hb1 hS0.2.2.1.lt, hS0.2.2.2.below hb1 hS0.2.2.2.lt⟩) (fun hS1 => ?_)
      clear hK K
      try simp only [Act.put, List.setIfInBounds_toArray, List.set_cons_zero, List.set_cons_succ]
      refine takeD (i := 7) (v := .bool false) (some 59) rfl rfl (by kernel_rfl) (by kernel_rfl) (by kernel_rfl) (fun _ _ _ h => h) (Or.inl ⟨by rfl, ?_⟩) hS1 ?_
      · rintro w' _
        go_simp
      try simp only [Act.put, List.setIfInBounds_toArray, List.set_cons_zero, List.set_cons_succ]
      refine takeD (i := 8) (v := .bool false) (some 60) rfl rfl (by kernel_rfl) (by kernel_rfl) (by kernel_rfl) (fun _ _ _ h => h) (Or.inl ⟨by rfl, ?_⟩) hS1 ?_
      · rintro w' _
        go_simp
      try simp only [Act.put, List.setIfInBounds_toArray, List.set_cons_zero, List.set_cons_succ]
      refine takeD (i := 9) (v := .agg #[.int .i64 x.v, .int .i64 x.m, .int .u8 x.b0, .int .u8 x.b1, .int .u8 x.b2, .int .u8 x.i0, .int .u8 x.i1, .int .u8 x.i2]) (some 61) rfl rfl (by kernel_rfl) (by kernel_rfl) (by kernel_rfl) (fun _ _ _ h => h) (Or.inl ⟨by rfl, ?_⟩) hS1 ?_
      · rintro w' ⟨s0, s1, s2, s3⟩
        have d0 := s0.cell 0 rfl
        have d1 := s0.cell 1 rfl
        have d2 := s0.cell 2 rfl
        have d3 := s0.cell 3 rfl
        have d4 := s0.cell 4 rfl
        have d5 := s0.cell 5 rfl
        have d6 := s0.cell 6 rfl
        have d7 := s0.cell 7 rfl
        go_simp
      try simp only [Act.put, List.setIfInBounds_toArray, List.set_cons_zero, List.set_cons_succ]
      refine takeD (i := 10) (v := .agg #[.int .i64 x.v, .int .i64 x.m, .int .u8 x.b0, .int .u8 x.b1, .int .u8 x.b2, .int .u8 x.i0, .int .u8 x.i1, .int .u8 x.i2]) (some 62) rfl rfl (by kernel_rfl) (by kernel_rfl) (by kernel_rfl) (fun _ _ _ h => h) (Or.inl ⟨by rfl, ?_⟩) hS1 ?_
      · rintro w' ⟨s0, s1, s2, s3⟩
        have d0 := s0.cell 0 rfl
        have d1 := s0.cell 1 rfl
        have d2 := s0.cell 2 rfl
        have d3 := s0.cell 3 rfl
        have d4 := s0.cell 4 rfl
        have d5 := s0.cell 5 rfl
        have d6 := s0.cell 6 rfl
        have d7 := s0.cell 7 rfl
        go_simp
      try simp only [Act.put, List.setIfInBounds_toArray, List.set_cons_zero, List.set_cons_succ]
      refine wpAnyH_ready (rs := [11]) (by kernel_rfl) (by simp) ?_
      refine AllReadyH.cons rfl (fun K hK => ?_) AllReadyH.nil
      try rw [if_pos (by rfl)]
      go_simp
      go_at_call 38
      refine (coversM_any x x _).mono ?_
      rw [Hxx.out]
      rintro e v2 ⟨rfl, hb2⟩
      have hB2 := hB1.trans (hb2.mono hB1.size)
      refine hK.out _ _ (⟨hS1.1.below hb2 hS1.1.lt, hS1.2.1.below hb2 hS1.2.1.lt, hS1.2.2.1.below hb2 hS1.2.2.1.lt, hS1.2.2.2.below hb2 hS1.2.2.2.lt⟩) (fun hS2 => ?_)
      clear hK K
      try simp only [Act.put, List.setIfInBounds_toArray, List.set_cons_zero, List.set_cons_succ]
      refine takeD (i := 12) (v := .bool false) (some 64) rfl rfl (by kernel_rfl) (by kernel_rfl) (by kernel_rfl) (fun _ _ _ h => h) (Or.inl ⟨by rfl, ?_⟩) hS2 ?_
      · rintro w' _
        go_simp
      try simp only [Act.put, List.setIfInBounds_toArray, List.set_cons_zero, List.set_cons_succ]
      refine takeD (i := 13) (v := .bool false) (some 65) rfl rfl (by kernel_rfl) (by kernel_rfl) (by kernel_rfl) (fun _ _ _ h => h) (Or.inl ⟨by rfl, ?_⟩) hS2 ?_
      · rintro w' _
        go_simp
      try simp only [Act.put, List.setIfInBounds_toArray, List.set_cons_zero, List.set_cons_succ]
      refine takeD (i := 14) (v := .bool false) (some 66) rfl rfl (by kernel_rfl) (by kernel_rfl) (by kernel_rfl) (fun _ _ _ h => h) (Or.inl ⟨by rfl, ?_⟩) hS2 ?_
      · rintro w' _
        go_simp
      try simp only [Act.put, List.setIfInBounds_toArray, List.set_cons_zero, List.set_cons_succ]
      refine takeD (i := 16) (v := .agg #[.int .i64 x.v, .int .i64 x.m, .int .u8 x.b0, .int .u8 x.b1, .int .u8 x.b2, .int .u8 x.i0, .int .u8 x.i1, .int .u8 x.i2]) (some 68) rfl rfl (by kernel_rfl) (by kernel_rfl) (by kernel_rfl) (fun _ _ _ h => h) (Or.inl ⟨by rfl, ?_⟩) hS2 ?_
      · rintro w' ⟨s0, s1, s2, s3⟩
        have d0 := s0.cell 0 rfl
        have d1 := s0.cell 1 rfl
        have d2 := s0.cell 2 rfl
        have d3 := s0.cell 3 rfl
        have d4 := s0.cell 4 rfl
        have d5 := s0.cell 5 rfl
        have d6 := s0.cell 6 rfl
        have d7 := s0.cell 7 rfl
        go_simp
      try simp only [Act.put, List.setIfInBounds_toArray, List.set_cons_zero, List.set_cons_succ]
      refine wpAnyH_ready (rs := [15]) (by kernel_rfl) (by simp) ?_
      refine AllReadyH.cons rfl (fun K hK => ?_) AllReadyH.nil
      try rw [if_pos (by rfl)]
      go_simp
      go_at_call 31
      refine (anyM_any _).mono ?_
      rintro e v3 ⟨rfl, hb3⟩
      have hB3 := hB2.trans (hb3.mono hB2.size)
      refine hK.out _ _ (⟨hS2.1.below hb3 hS2.1.lt, hS2.2.1.below hb3 hS2.2.1.lt, hS2.2.2.1.below hb3 hS2.2.2.1.lt, hS2.2.2.2.below hb3 hS2.2.2.2.lt⟩) (fun hS3 => ?_)
      clear hK K
      try simp only [Act.put, List.setIfInBounds_toArray, List.set_cons_zero, List.set_cons_succ]
      refine wpAnyH_ready (rs := [17]) (by kernel_rfl) (by simp) ?_
      refine AllReadyH.cons rfl (fun K hK => ?_) AllReadyH.nil
      try rw [if_pos (by rfl)]
      go_simp
      go_at_call 38
      refine (coversM_any anyM x _).mono ?_
      rw [Hax.out]
      rintro e v4 ⟨rfl, hb4⟩
      have hB4 := hB3.trans (hb4.mono hB3.size)
      refine hK.out _ _ (⟨hS3.1.below hb4 hS3.1.lt, hS3.2.1.below hb4 hS3.2.1.lt, hS3.2.2.1.below hb4 hS3.2.2.1.lt, hS3.2.2.2.below hb4 hS3.2.2.2.lt⟩) (fun hS4 => ?_)
      clear hK K
      try simp only [Act.put, List.setIfInBounds_toArray, List.set_cons_zero, List.set_cons_succ]
      refine takeD (i := 18) (v := .bool false) (some 70) rfl rfl (by kernel_rfl) (by kernel_rfl) (by kernel_rfl) (fun _ _ _ h => h) (Or.inl ⟨by rfl, ?_⟩) hS4 ?_
      · rintro w' _
        go_simp
      try simp only [Act.put, List.setIfInBounds_toArray, List.set_cons_zero, List.set_cons_succ]
      refine takeD (i := 19) (v := .bool false) (some 71) rfl rfl (by kernel_rfl) (by kernel_rfl) (by kernel_rfl) (fun _ _ _ h => h) (Or.inl ⟨by rfl, ?_⟩) hS4 ?_
      · rintro w' _
        go_simp
      try simp only [Act.put, List.setIfInBounds_toArray, List.set_cons_zero, List.set_cons_succ]
      refine wpAnyH_done (by kernel_rfl) ?_ _
      go_wp2_with fail
      go_meet
      case rel => exact ⟨rfl, hS4.1, hS4.2.1, hS4.2.2.1, hS4.2.2.2, hB4⟩
    clear h7 h8 ht hh hB
    obtain ⟨rfl, h7, h8, ht, hh, hB⟩ := hcut
    go_wp2_with (first | refine wpList_load_vb (vs := [.int .i64 x.v, .int .i64 x.m, .int .u8 x.b0, .int .u8 x.b1, .int .u8 x.b2, .int .u8 x.i0, .int .u8 x.i1, .int .u8 x.i2]) rfl (.tmp 7) rfl rfl h7 rfl agg_mask ?_ | refine wpList_load_vb (vs := [.int .i64 y.v, .int .i64 y.m, .int .u8 y.b0, .int .u8 y.b1, .int .u8 y.b2, .int .u8 y.i0, .int .u8 y.i1, .int .u8 y.i2]) rfl (.tmp 8) rfl rfl h8 rfl agg_mask ?_)
    refine (coversM_any x y _).mono ?_
    rw [Hxy.out]
    rintro e w5 ⟨rfl, hb⟩
    replace h7 := h7.below hb h7.lt
    replace h8 := h8.below hb h8.lt
    replace ht := ht.below hb ht.lt
    replace hh := hh.below hb hh.lt
    replace hB := hB.trans (hb.mono hB.size)
    clear hb
    by_cases hk : coversR x y = true
    · have Vx := Kp.mk (show fitsR x (toN y.v 0 p) (toN y.m (-1) q) (near a y.i0 y.b0) (near b y.i1 y.b1) (near c y.i2 y.b2) = true from Hnx.out hk)
      rw [hk]
      clear hk Hnx Hny Hty Htx Hxx Hax Hxy
      obtain ⟨d0, d1, d2, d3, d4, d5, d6, d7⟩ := h7.c8
      have t0 := ht.cell 0 rfl
      have t1 := ht.cell 1 rfl
      have a0 := hh.cell 0 rfl
      have a1 := hh.cell 1 rfl
      have a2 := hh.cell 2 rfl
      go_wp2_with fail
      clear d0 d1 d2 d3 d4 d5 d6 d7 t0 t1 a0 a1 a2
      refine (fitsM_any x (toN y.v 0 p) (toN y.m (-1) q) (near a y.i0 y.b0) (near b y.i1 y.b1) (near c y.i2 y.b2) _).mono ?_
      rw [fitsM_is, Vx.out]
      rintro e w6 ⟨rfl, hb⟩
      replace hB := hB.trans (hb.mono hB.size)
      clear hb
      go_wp2_with fail
      refine (worksM_any _).mono ?_
      rintro e w7 ⟨rfl, hb⟩
      replace hB := hB.trans (hb.mono hB.size)
      clear hb
      go_wp2_with fail
      go_ret
      exact ⟨rfl, hB⟩
    replace hk : coversR x y = false := by simpa using hk
    have Vx := Kp.mk (Htx.out hk)
    rw [hk]
    clear hk Hnx Hny Htx Hxx Hax Hxy Vy
    go_upto_region 14 with fail
    have c0 := h8.cell 0 rfl
    have c1 := h7.cell 0 rfl
    go_cut [92] from 85 (fun v wx => v = .bool (y.v == 0 && x.v != 0) ∧ Vb 25 wx g1 [.int .i64 x.v, .int .i64 x.m, .int .u8 x.b0, .int .u8 x.b1, .int .u8 x.b2, .int .u8 x.i0, .int .u8 x.i1, .int .u8 x.i2] ∧ Vb 25 wx g2 [.int .i64 y.v, .int .i64 y.m, .int .u8 y.b0, .int .u8 y.b1, .int .u8 y.b2, .int .u8 y.i0, .int .u8 y.i1, .int .u8 y.i2] ∧ Vb 52 wx (w.heap.size + 1) [.int .i64 (toN y.v 0 p), .int .i64 (toN y.m (-1) q)] ∧ Vb 23 wx (w.heap.size + 2) [.int .u8 (near a y.i0 y.b0), .int .u8 (near b y.i1 y.b1), .int .u8 (near c y.i2 y.b2)] ∧ Below w.heap.size w wx)
    case first => as_aux_lemma =>
      by_cases hv : y.v = 0
      · have hq : (y.v == 0) = true := by simpa using hv
        by_cases hw : x.v = 0
        · have hr : (x.v != 0) = false := by simpa using hw
          have hp := Kp.mk (show (y.v == 0 && x.v != 0) = false by rw [hr]; simp)
          clear hv hw
          go_wp2_with fail
          go_meet
          case rel => exact ⟨by rw [hp.out]; first | done | rfl, h7, h8, ht, hh, hB⟩
        · have hr : (x.v != 0) = true := by simpa using hw
          have hp := Kp.mk (show (y.v == 0 && x.v != 0) = true by rw [hq, hr]; rfl)
          clear hv hw
          go_wp2_with fail
          go_meet
          case rel => exact ⟨by rw [hp.out]; first | done | rfl, h7, h8, ht, hh, hB⟩
      · have hq : (y.v == 0) = false := by simpa using hv
        have hp := Kp.mk (show (y.v == 0 && x.v != 0) = false by rw [hq]; rfl)
        clear hv
        go_wp2_with fail
        go_meet
        case rel => exact ⟨by rw [hp.out]; first | done | rfl, h7, h8, ht, hh, hB⟩
    clear h7 h8 ht hh hB c0 c1
    obtain ⟨rfl, h7, h8, ht, hh, hB⟩ := hcut
    obtain ⟨bq0, hbq⟩ : ∃ z, (y.v == 0 && x.v != 0) = z := ⟨_, rfl⟩
    rw [hbq]
    have Hbq := Kp.mk hbq
    clear hbq
    have hf := ht.free
    have t0 := ht.cell 0 rfl
    have c1 := h7.cell 0 rfl
    go_upto_if 92 with fail
    go_cut [] from 93 (fun wx => Vb 25 wx g1 [.int .i64 x.v, .int .i64 x.m, .int .u8 x.b0, .int .u8 x.b1, .int .u8 x.b2, .int .u8 x.i0, .int .u8 x.i1, .int .u8 x.i2] ∧ Vb 25 wx g2 [.int .i64 y.v, .int .i64 y.m, .int .u8 y.b0, .int .u8 y.b1, .int .u8 y.b2, .int .u8 y.i0, .int .u8 y.i1, .int .u8 y.i2] ∧ Vb 52 wx (w.heap.size + 1) [.int .i64 (upN y.v 0 x.v (toN y.v 0 p)), .int .i64 (toN y.m (-1) q)] ∧ Vb 23 wx (w.heap.size + 2) [.int .u8 (near a y.i0 y.b0), .int .u8 (near b y.i1 y.b1), .int .u8 (near c y.i2 y.b2)] ∧ Below w.heap.size w wx)
    case first => as_aux_lemma =>
      cases bq0
      · have hm : ¬ (y.v = 0 ∧ x.v ≠ 0) := by have := Hbq.out; simpa using this
        have st : Vb 52 wc (w.heap.size + 1) [.int .i64 (upN y.v 0 x.v (toN y.v 0 p)), .int .i64 (toN y.m (-1) q)] := by
          rw [show (upN y.v 0 x.v (toN y.v 0 p)) = (toN y.v 0 p) from if_neg hm]
          exact ht
        have Hr := Kp.mk (And.intro h7 (And.intro h8 (And.intro st (And.intro hh hB))))
        clear st h7 h8 ht hh hB hm Hbq
        go_wp2_with fail
        go_meet
        case rel => exact Hr.out
      · have hm : y.v = 0 ∧ x.v ≠ 0 := by have := Hbq.out; simpa using this
        have st : Vb 52 (wc.setCell ⟨w.heap.size + 1, 0, none⟩ (.int .i64 (wrap64 (x.v + 1)))) (w.heap.size + 1) [.int .i64 (upN y.v 0 x.v (toN y.v 0 p)), .int .i64 (toN y.m (-1) q)] := by
          rw [show (upN y.v 0 x.v (toN y.v 0 p)) = (wrap64 (x.v + 1)) from if_pos hm]
          exact ht.set 0 _
        have s_h7 := h7.other (r := w.heap.size + 1) (by omega) 0 (.int .i64 (wrap64 (x.v + 1)))
        have s_h8 := h8.other (r := w.heap.size + 1) (by omega) 0 (.int .i64 (wrap64 (x.v + 1)))
        have s_hh := hh.other (r := w.heap.size + 1) (by omega) 0 (.int .i64 (wrap64 (x.v + 1)))
        have s_B := hB.setCell (p := ⟨w.heap.size + 1, 0, none⟩) (by simp) (.int .i64 (wrap64 (x.v + 1)))
        have Hr := Kp.mk (And.intro s_h7 (And.intro s_h8 (And.intro st (And.intro s_hh s_B))))
        clear st s_h7 s_h8 s_hh s_B h7 h8 ht hh hB hm Hbq
        go_wp2_with fail
        go_meet
        case rel => exact Hr.out
    clear h7 h8 ht hh hB hf t0 c1 Hbq
    obtain ⟨h7, h8, ht, hh, hB⟩ := hcut
    go_upto_region 16 with fail
    have c0 := h8.cell 1 rfl
    have c1 := h7.cell 1 rfl
    go_cut [104] from 97 (fun v wx => v = .bool (y.m == (-1) && x.m != (-1)) ∧ Vb 25 wx g1 [.int .i64 x.v, .int .i64 x.m, .int .u8 x.b0, .int .u8 x.b1, .int .u8 x.b2, .int .u8 x.i0, .int .u8 x.i1, .int .u8 x.i2] ∧ Vb 25 wx g2 [.int .i64 y.v, .int .i64 y.m, .int .u8 y.b0, .int .u8 y.b1, .int .u8 y.b2, .int .u8 y.i0, .int .u8 y.i1, .int .u8 y.i2] ∧ Vb 52 wx (w.heap.size + 1) [.int .i64 (upN y.v 0 x.v (toN y.v 0 p)), .int .i64 (toN y.m (-1) q)] ∧ Vb 23 wx (w.heap.size + 2) [.int .u8 (near a y.i0 y.b0), .int .u8 (near b y.i1 y.b1), .int .u8 (near c y.i2 y.b2)] ∧ Below w.heap.size w wx)
    case first => as_aux_lemma =>
      by_cases hv : y.m = (-1)
      · have hq : (y.m == (-1)) = true := by simpa using hv
        by_cases hw : x.m = (-1)
        · have hr : (x.m != (-1)) = false := by simpa using hw
          have hp := Kp.mk (show (y.m == (-1) && x.m != (-1)) = false by rw [hr]; simp)
          clear hv hw
          go_wp2_with fail
          go_meet
          case rel => exact ⟨by rw [hp.out]; first | done | rfl, h7, h8, ht, hh, hB⟩
        · have hr : (x.m != (-1)) = true := by simpa using hw
          have hp := Kp.mk (show (y.m == (-1) && x.m != (-1)) = true by rw [hq, hr]; rfl)
          clear hv hw
          go_wp2_with fail
          go_meet
          case rel => exact ⟨by rw [hp.out]; first | done | rfl, h7, h8, ht, hh, hB⟩
      · have hq : (y.m == (-1)) = false := by simpa using hv
        have hp := Kp.mk (show (y.m == (-1) && x.m != (-1)) = false by rw [hq]; rfl)
        clear hv
        go_wp2_with fail
        go_meet
        case rel => exact ⟨by rw [hp.out]; first | done | rfl, h7, h8, ht, hh, hB⟩
    clear h7 h8 ht hh hB c0 c1
    obtain ⟨rfl, h7, h8, ht, hh, hB⟩ := hcut
    obtain ⟨bq1, hbq⟩ : ∃ z, (y.m == (-1) && x.m != (-1)) = z := ⟨_, rfl⟩
    rw [hbq]
    have Hbq := Kp.mk hbq
    clear hbq
    have hf := ht.free
    have t1 := ht.cell 1 rfl
    have c1 := h7.cell 1 rfl
    go_upto_if 104 with fail
    go_cut [] from 105 (fun wx => Vb 25 wx g1 [.int .i64 x.v, .int .i64 x.m, .int .u8 x.b0, .int .u8 x.b1, .int .u8 x.b2, .int .u8 x.i0, .int .u8 x.i1, .int .u8 x.i2] ∧ Vb 25 wx g2 [.int .i64 y.v, .int .i64 y.m, .int .u8 y.b0, .int .u8 y.b1, .int .u8 y.b2, .int .u8 y.i0, .int .u8 y.i1, .int .u8 y.i2] ∧ Vb 52 wx (w.heap.size + 1) [.int .i64 (upN y.v 0 x.v (toN y.v 0 p)), .int .i64 (upN y.m (-1) x.m (toN y.m (-1) q))] ∧ Vb 23 wx (w.heap.size + 2) [.int .u8 (near a y.i0 y.b0), .int .u8 (near b y.i1 y.b1), .int .u8 (near c y.i2 y.b2)] ∧ Below w.heap.size w wx)
    case first => as_aux_lemma =>
      cases bq1
      · have hm : ¬ (y.m = (-1) ∧ x.m ≠ (-1)) := by have := Hbq.out; simpa using this
        have st : Vb 52 wc (w.heap.size + 1) [.int .i64 (upN y.v 0 x.v (toN y.v 0 p)), .int .i64 (upN y.m (-1) x.m (toN y.m (-1) q))] := by
          rw [show (upN y.m (-1) x.m (toN y.m (-1) q)) = (toN y.m (-1) q) from if_neg hm]
          exact ht
        have Hr := Kp.mk (And.intro h7 (And.intro h8 (And.intro st (And.intro hh hB))))
        clear st h7 h8 ht hh hB hm Hbq
        go_wp2_with fail
        go_meet
        case rel => exact Hr.out
      · have hm : y.m = (-1) ∧ x.m ≠ (-1) := by have := Hbq.out; simpa using this
        have st : Vb 52 (wc.setCell ⟨w.heap.size + 1, 1, none⟩ (.int .i64 (wrap64 (x.m + 1)))) (w.heap.size + 1) [.int .i64 (upN y.v 0 x.v (toN y.v 0 p)), .int .i64 (upN y.m (-1) x.m (toN y.m (-1) q))] := by
          rw [show (upN y.m (-1) x.m (toN y.m (-1) q)) = (wrap64 (x.m + 1)) from if_pos hm]
          exact ht.set 1 _
        have s_h7 := h7.other (r := w.heap.size + 1) (by omega) 1 (.int .i64 (wrap64 (x.m + 1)))
        have s_h8 := h8.other (r := w.heap.size + 1) (by omega) 1 (.int .i64 (wrap64 (x.m + 1)))
        have s_hh := hh.other (r := w.heap.size + 1) (by omega) 1 (.int .i64 (wrap64 (x.m + 1)))
        have s_B := hB.setCell (p := ⟨w.heap.size + 1, 1, none⟩) (by simp) (.int .i64 (wrap64 (x.m + 1)))
        have Hr := Kp.mk (And.intro s_h7 (And.intro s_h8 (And.intro st (And.intro s_hh s_B))))
        clear st s_h7 s_h8 s_hh s_B h7 h8 ht hh hB hm Hbq
        go_wp2_with fail
        go_meet
        case rel => exact Hr.out
    clear h7 h8 ht hh hB hf t1 c1 Hbq
    obtain ⟨h7, h8, ht, hh, hB⟩ := hcut
    go_wp2_with fail
    refine wp_loop_rounds (3 + 1) ?_
    rw [rounds_succ]
    obtain ⟨d0, d1, d2, d3, d4, d5, d6, d7⟩ := h7.c8
    obtain ⟨e0, e1, e2, e3, e4, e5, e6, e7⟩ := h8.c8
    go_upto_region 21 with fail
    go_quiet (fail)
    clear d0 d1 d2 d3 d4 d5 d6 d7 e0 e1 e2 e3 e4 e5 e6 e7
    replace h7 : Vb 25 (wc.drewN nq) g1 [.int .i64 x.v, .int .i64 x.m, .int .u8 x.b0, .int .u8 x.b1, .int .u8 x.b2, .int .u8 x.i0, .int .u8 x.i1, .int .u8 x.i2] := h7
    replace h8 : Vb 25 (wc.drewN nq) g2 [.int .i64 y.v, .int .i64 y.m, .int .u8 y.b0, .int .u8 y.b1, .int .u8 y.b2, .int .u8 y.i0, .int .u8 y.i1, .int .u8 y.i2] := h8
    replace ht : Vb 52 (wc.drewN nq) (w.heap.size + 1) [.int .i64 (upN y.v 0 x.v (toN y.v 0 p)), .int .i64 (upN y.m (-1) x.m (toN y.m (-1) q))] := ht
    replace hh : Vb 23 (wc.drewN nq) (w.heap.size + 2) [.int .u8 (near a y.i0 y.b0), .int .u8 (near b y.i1 y.b1), .int .u8 (near c y.i2 y.b2)] := hh
    replace hB : Below w.heap.size w (wc.drewN nq) := below_drewN hB nq
    generalize wc.drewN nq = n0q at *
    obtain ⟨d0, d1, d2, d3, d4, d5, d6, d7⟩ := h7.c8
    have a0 := hh.cell 0 rfl
    have a1 := hh.cell 1 rfl
    have a2 := hh.cell 2 rfl
    have hf := hh.free
    go_upto_region 22 with fail
    go_still_tail 15, (by kernel_rfl)
    clear a0 a1 a2 hf d0 d1 d2 d3 d4 d5 d6 d7
    replace h7 : Vb 25 n0q.drew g1 [.int .i64 x.v, .int .i64 x.m, .int .u8 x.b0, .int .u8 x.b1, .int .u8 x.b2, .int .u8 x.i0, .int .u8 x.i1, .int .u8 x.i2] := h7
    replace h8 : Vb 25 n0q.drew g2 [.int .i64 y.v, .int .i64 y.m, .int .u8 y.b0, .int .u8 y.b1, .int .u8 y.b2, .int .u8 y.i0, .int .u8 y.i1, .int .u8 y.i2] := h8
    replace ht : Vb 52 n0q.drew (w.heap.size + 1) [.int .i64 (upN y.v 0 x.v (toN y.v 0 p)), .int .i64 (upN y.m (-1) x.m (toN y.m (-1) q))] := ht
    replace hh : Vb 23 n0q.drew (w.heap.size + 2) [.int .u8 (near a y.i0 y.b0), .int .u8 (near b y.i1 y.b1), .int .u8 (near c y.i2 y.b2)] := hh
    replace hB : Below w.heap.size w n0q.drew := hB.drew
    change wpList _ _ _ _ _ n0q.drew
    generalize n0q.drew = n0d at *
    have hf := hh.free
    have a0 := hh.cell 0 rfl
    have s_h7 := h7.other (r := w.heap.size + 2) (by omega) 0 (.int .u8 (bits .or .u8 (bits .andNot .u8 (near a y.i0 y.b0) (bits .andNot .u8 x.b0 y.b0)) (bits .and .u8 (bits .xor .u8 IntKind.u8.max x.i0) (bits .andNot .u8 x.b0 y.b0))))
    have s_h8 := h8.other (r := w.heap.size + 2) (by omega) 0 (.int .u8 (bits .or .u8 (bits .andNot .u8 (near a y.i0 y.b0) (bits .andNot .u8 x.b0 y.b0)) (bits .and .u8 (bits .xor .u8 IntKind.u8.max x.i0) (bits .andNot .u8 x.b0 y.b0))))
    have s_ht := ht.other (r := w.heap.size + 2) (by omega) 0 (.int .u8 (bits .or .u8 (bits .andNot .u8 (near a y.i0 y.b0) (bits .andNot .u8 x.b0 y.b0)) (bits .and .u8 (bits .xor .u8 IntKind.u8.max x.i0) (bits .andNot .u8 x.b0 y.b0))))
    have s_hh : Vb 23 (n0d.setCell ⟨w.heap.size + 2, 0, none⟩ (.int .u8 (bits .or .u8 (bits .andNot .u8 (near a y.i0 y.b0) (bits .andNot .u8 x.b0 y.b0)) (bits .and .u8 (bits .xor .u8 IntKind.u8.max x.i0) (bits .andNot .u8 x.b0 y.b0))))) (w.heap.size + 2) [.int .u8 (turn (near a y.i0 y.b0) x.i0 (bits .andNot .u8 x.b0 y.b0)), .int .u8 (near b y.i1 y.b1), .int .u8 (near c y.i2 y.b2)] := hh.set 0 _
    have s_B := hB.setCell (p := ⟨w.heap.size + 2, 0, none⟩) (by simp) (.int .u8 (bits .or .u8 (bits .andNot .u8 (near a y.i0 y.b0) (bits .andNot .u8 x.b0 y.b0)) (bits .and .u8 (bits .xor .u8 IntKind.u8.max x.i0) (bits .andNot .u8 x.b0 y.b0))))
    clear h7 h8 ht hh hB
    go_wp2_with fail
    clear hf a0
    have h7 := s_h7
    have h8 := s_h8
    have ht := s_ht
    have hh := s_hh
    have hB := s_B
    clear s_h7 s_h8 s_ht s_hh s_B
    generalize n0d.setCell ⟨w.heap.size + 2, 0, none⟩ (.int .u8 (bits .or .u8 (bits .andNot .u8 (near a y.i0 y.b0) (bits .andNot .u8 x.b0 y.b0)) (bits .and .u8 (bits .xor .u8 IntKind.u8.max x.i0) (bits .andNot .u8 x.b0 y.b0)))) = n0e at *
    rw [rounds_succ]
    obtain ⟨d0, d1, d2, d3, d4, d5, d6, d7⟩ := h7.c8
    obtain ⟨e0, e1, e2, e3, e4, e5, e6, e7⟩ := h8.c8
    go_upto_region 21 with fail
    go_quiet (fail)
    clear d0 d1 d2 d3 d4 d5 d6 d7 e0 e1 e2 e3 e4 e5 e6 e7
    replace h7 : Vb 25 (n0e.drewN nq) g1 [.int .i64 x.v, .int .i64 x.m, .int .u8 x.b0, .int .u8 x.b1, .int .u8 x.b2, .int .u8 x.i0, .int .u8 x.i1, .int .u8 x.i2] := h7
    replace h8 : Vb 25 (n0e.drewN nq) g2 [.int .i64 y.v, .int .i64 y.m, .int .u8 y.b0, .int .u8 y.b1, .int .u8 y.b2, .int .u8 y.i0, .int .u8 y.i1, .int .u8 y.i2] := h8
    replace ht : Vb 52 (n0e.drewN nq) (w.heap.size + 1) [.int .i64 (upN y.v 0 x.v (toN y.v 0 p)), .int .i64 (upN y.m (-1) x.m (toN y.m (-1) q))] := ht
    replace hh : Vb 23 (n0e.drewN nq) (w.heap.size + 2) [.int .u8 (turn (near a y.i0 y.b0) x.i0 (bits .andNot .u8 x.b0 y.b0)), .int .u8 (near b y.i1 y.b1), .int .u8 (near c y.i2 y.b2)] := hh
    replace hB : Below w.heap.size w (n0e.drewN nq) := below_drewN hB nq
    generalize n0e.drewN nq = n1q at *
    obtain ⟨d0, d1, d2, d3, d4, d5, d6, d7⟩ := h7.c8
    have a0 := hh.cell 0 rfl
    have a1 := hh.cell 1 rfl
    have a2 := hh.cell 2 rfl
    have hf := hh.free
    go_upto_region 22 with fail
    go_still_tail 15, (by kernel_rfl)
    clear a0 a1 a2 hf d0 d1 d2 d3 d4 d5 d6 d7
    replace h7 : Vb 25 n1q.drew g1 [.int .i64 x.v, .int .i64 x.m, .int .u8 x.b0, .int .u8 x.b1, .int .u8 x.b2, .int .u8 x.i0, .int .u8 x.i1, .int .u8 x.i2] := h7
    replace h8 : Vb 25 n1q.drew g2 [.int .i64 y.v, .int .i64 y.m, .int .u8 y.b0, .int .u8 y.b1, .int .u8 y.b2, .int .u8 y.i0, .int .u8 y.i1, .int .u8 y.i2] := h8
    replace ht : Vb 52 n1q.drew (w.heap.size + 1) [.int .i64 (upN y.v 0 x.v (toN y.v 0 p)), .int .i64 (upN y.m (-1) x.m (toN y.m (-1) q))] := ht
    replace hh : Vb 23 n1q.drew (w.heap.size + 2) [.int .u8 (turn (near a y.i0 y.b0) x.i0 (bits .andNot .u8 x.b0 y.b0)), .int .u8 (near b y.i1 y.b1), .int .u8 (near c y.i2 y.b2)] := hh
    replace hB : Below w.heap.size w n1q.drew := hB.drew
    change wpList _ _ _ _ _ n1q.drew
    generalize n1q.drew = n1d at *
    have hf := hh.free
    have a1 := hh.cell 1 rfl
    have s_h7 := h7.other (r := w.heap.size + 2) (by omega) 1 (.int .u8 (bits .or .u8 (bits .andNot .u8 (near b y.i1 y.b1) (bits .andNot .u8 x.b1 y.b1)) (bits .and .u8 (bits .xor .u8 IntKind.u8.max x.i1) (bits .andNot .u8 x.b1 y.b1))))
    have s_h8 := h8.other (r := w.heap.size + 2) (by omega) 1 (.int .u8 (bits .or .u8 (bits .andNot .u8 (near b y.i1 y.b1) (bits .andNot .u8 x.b1 y.b1)) (bits .and .u8 (bits .xor .u8 IntKind.u8.max x.i1) (bits .andNot .u8 x.b1 y.b1))))
    have s_ht := ht.other (r := w.heap.size + 2) (by omega) 1 (.int .u8 (bits .or .u8 (bits .andNot .u8 (near b y.i1 y.b1) (bits .andNot .u8 x.b1 y.b1)) (bits .and .u8 (bits .xor .u8 IntKind.u8.max x.i1) (bits .andNot .u8 x.b1 y.b1))))
    have s_hh : Vb 23 (n1d.setCell ⟨w.heap.size + 2, 1, none⟩ (.int .u8 (bits .or .u8 (bits .andNot .u8 (near b y.i1 y.b1) (bits .andNot .u8 x.b1 y.b1)) (bits .and .u8 (bits .xor .u8 IntKind.u8.max x.i1) (bits .andNot .u8 x.b1 y.b1))))) (w.heap.size + 2) [.int .u8 (turn (near a y.i0 y.b0) x.i0 (bits .andNot .u8 x.b0 y.b0)), .int .u8 (turn (near b y.i1 y.b1) x.i1 (bits .andNot .u8 x.b1 y.b1)), .int .u8 (near c y.i2 y.b2)] := hh.set 1 _
    have s_B := hB.setCell (p := ⟨w.heap.size + 2, 1, none⟩) (by simp) (.int .u8 (bits .or .u8 (bits .andNot .u8 (near b y.i1 y.b1) (bits .andNot .u8 x.b1 y.b1)) (bits .and .u8 (bits .xor .u8 IntKind.u8.max x.i1) (bits .andNot .u8 x.b1 y.b1))))
    clear h7 h8 ht hh hB
    go_wp2_with fail
    clear hf a1
    have h7 := s_h7
    have h8 := s_h8
    have ht := s_ht
    have hh := s_hh
    have hB := s_B
    clear s_h7 s_h8 s_ht s_hh s_B
    generalize n1d.setCell ⟨w.heap.size + 2, 1, none⟩ (.int .u8 (bits .or .u8 (bits .andNot .u8 (near b y.i1 y.b1) (bits .andNot .u8 x.b1 y.b1)) (bits .and .u8 (bits .xor .u8 IntKind.u8.max x.i1) (bits .andNot .u8 x.b1 y.b1)))) = n1e at *
    rw [rounds_succ]
    obtain ⟨d0, d1, d2, d3, d4, d5, d6, d7⟩ := h7.c8
    obtain ⟨e0, e1, e2, e3, e4, e5, e6, e7⟩ := h8.c8
    go_upto_region 21 with fail
    go_quiet (fail)
    clear d0 d1 d2 d3 d4 d5 d6 d7 e0 e1 e2 e3 e4 e5 e6 e7
    replace h7 : Vb 25 (n1e.drewN nq) g1 [.int .i64 x.v, .int .i64 x.m, .int .u8 x.b0, .int .u8 x.b1, .int .u8 x.b2, .int .u8 x.i0, .int .u8 x.i1, .int .u8 x.i2] := h7
    replace h8 : Vb 25 (n1e.drewN nq) g2 [.int .i64 y.v, .int .i64 y.m, .int .u8 y.b0, .int .u8 y.b1, .int .u8 y.b2, .int .u8 y.i0, .int .u8 y.i1, .int .u8 y.i2] := h8
    replace ht : Vb 52 (n1e.drewN nq) (w.heap.size + 1) [.int .i64 (upN y.v 0 x.v (toN y.v 0 p)), .int .i64 (upN y.m (-1) x.m (toN y.m (-1) q))] := ht
    replace hh : Vb 23 (n1e.drewN nq) (w.heap.size + 2) [.int .u8 (turn (near a y.i0 y.b0) x.i0 (bits .andNot .u8 x.b0 y.b0)), .int .u8 (turn (near b y.i1 y.b1) x.i1 (bits .andNot .u8 x.b1 y.b1)), .int .u8 (near c y.i2 y.b2)] := hh
    replace hB : Below w.heap.size w (n1e.drewN nq) := below_drewN hB nq
    generalize n1e.drewN nq = n2q at *
    obtain ⟨d0, d1, d2, d3, d4, d5, d6, d7⟩ := h7.c8
    have a0 := hh.cell 0 rfl
    have a1 := hh.cell 1 rfl
    have a2 := hh.cell 2 rfl
    have hf := hh.free
    go_upto_region 22 with fail
    go_still_tail 15, (by kernel_rfl)
    clear a0 a1 a2 hf d0 d1 d2 d3 d4 d5 d6 d7
    replace h7 : Vb 25 n2q.drew g1 [.int .i64 x.v, .int .i64 x.m, .int .u8 x.b0, .int .u8 x.b1, .int .u8 x.b2, .int .u8 x.i0, .int .u8 x.i1, .int .u8 x.i2] := h7
    replace h8 : Vb 25 n2q.drew g2 [.int .i64 y.v, .int .i64 y.m, .int .u8 y.b0, .int .u8 y.b1, .int .u8 y.b2, .int .u8 y.i0, .int .u8 y.i1, .int .u8 y.i2] := h8
    replace ht : Vb 52 n2q.drew (w.heap.size + 1) [.int .i64 (upN y.v 0 x.v (toN y.v 0 p)), .int .i64 (upN y.m (-1) x.m (toN y.m (-1) q))] := ht
    replace hh : Vb 23 n2q.drew (w.heap.size + 2) [.int .u8 (turn (near a y.i0 y.b0) x.i0 (bits .andNot .u8 x.b0 y.b0)), .int .u8 (turn (near b y.i1 y.b1) x.i1 (bits .andNot .u8 x.b1 y.b1)), .int .u8 (near c y.i2 y.b2)] := hh
    replace hB : Below w.heap.size w n2q.drew := hB.drew
    change wpList _ _ _ _ _ n2q.drew
    generalize n2q.drew = n2d at *
    have hf := hh.free
    have a2 := hh.cell 2 rfl
    have s_h7 := h7.other (r := w.heap.size + 2) (by omega) 2 (.int .u8 (bits .or .u8 (bits .andNot .u8 (near c y.i2 y.b2) (bits .andNot .u8 x.b2 y.b2)) (bits .and .u8 (bits .xor .u8 IntKind.u8.max x.i2) (bits .andNot .u8 x.b2 y.b2))))
    have s_h8 := h8.other (r := w.heap.size + 2) (by omega) 2 (.int .u8 (bits .or .u8 (bits .andNot .u8 (near c y.i2 y.b2) (bits .andNot .u8 x.b2 y.b2)) (bits .and .u8 (bits .xor .u8 IntKind.u8.max x.i2) (bits .andNot .u8 x.b2 y.b2))))
    have s_ht := ht.other (r := w.heap.size + 2) (by omega) 2 (.int .u8 (bits .or .u8 (bits .andNot .u8 (near c y.i2 y.b2) (bits .andNot .u8 x.b2 y.b2)) (bits .and .u8 (bits .xor .u8 IntKind.u8.max x.i2) (bits .andNot .u8 x.b2 y.b2))))
    have s_hh : Vb 23 (n2d.setCell ⟨w.heap.size + 2, 2, none⟩ (.int .u8 (bits .or .u8 (bits .andNot .u8 (near c y.i2 y.b2) (bits .andNot .u8 x.b2 y.b2)) (bits .and .u8 (bits .xor .u8 IntKind.u8.max x.i2) (bits .andNot .u8 x.b2 y.b2))))) (w.heap.size + 2) [.int .u8 (turn (near a y.i0 y.b0) x.i0 (bits .andNot .u8 x.b0 y.b0)), .int .u8 (turn (near b y.i1 y.b1) x.i1 (bits .andNot .u8 x.b1 y.b1)), .int .u8 (turn (near c y.i2 y.b2) x.i2 (bits .andNot .u8 x.b2 y.b2))] := hh.set 2 _
    have s_B := hB.setCell (p := ⟨w.heap.size + 2, 2, none⟩) (by simp) (.int .u8 (bits .or .u8 (bits .andNot .u8 (near c y.i2 y.b2) (bits .andNot .u8 x.b2 y.b2)) (bits .and .u8 (bits .xor .u8 IntKind.u8.max x.i2) (bits .andNot .u8 x.b2 y.b2))))
    clear h7 h8 ht hh hB
    go_wp2_with fail
    clear hf a2
    have h7 := s_h7
    have h8 := s_h8
    have ht := s_ht
    have hh := s_hh
    have hB := s_B
    clear s_h7 s_h8 s_ht s_hh s_B
    generalize n2d.setCell ⟨w.heap.size + 2, 2, none⟩ (.int .u8 (bits .or .u8 (bits .andNot .u8 (near c y.i2 y.b2) (bits .andNot .u8 x.b2 y.b2)) (bits .and .u8 (bits .xor .u8 IntKind.u8.max x.i2) (bits .andNot .u8 x.b2 y.b2)))) = n2e at *
    rw [rounds_succ]
    obtain ⟨d0, d1, d2, d3, d4, d5, d6, d7⟩ := h8.c8
    have t0 := ht.cell 0 rfl
    have t1 := ht.cell 1 rfl
    have a0 := hh.cell 0 rfl
    have a1 := hh.cell 1 rfl
    have a2 := hh.cell 2 rfl
    go_wp2_with fail
    clear d0 d1 d2 d3 d4 d5 d6 d7 t0 t1 a0 a1 a2
    refine (fitsM_any y (upN y.v 0 x.v (toN y.v 0 p)) (upN y.m (-1) x.m (toN y.m (-1) q)) (turn (near a y.i0 y.b0) x.i0 (bits .andNot .u8 x.b0 y.b0)) (turn (near b y.i1 y.b1) x.i1 (bits .andNot .u8 x.b1 y.b1)) (turn (near c y.i2 y.b2) x.i2 (bits .andNot .u8 x.b2 y.b2)) _).mono ?_
    rw [fitsM_is, Hty.out]
    rintro e w6 ⟨rfl, hb⟩
    replace h7 := h7.below hb h7.lt
    replace h8 := h8.below hb h8.lt
    replace ht := ht.below hb ht.lt
    replace hh := hh.below hb hh.lt
    replace hB := hB.trans (hb.mono hB.size)
    clear hb
    obtain ⟨d0, d1, d2, d3, d4, d5, d6, d7⟩ := h7.c8
    have t0 := ht.cell 0 rfl
    have t1 := ht.cell 1 rfl
    have a0 := hh.cell 0 rfl
    have a1 := hh.cell 1 rfl
    have a2 := hh.cell 2 rfl
    go_wp2_with fail
    clear d0 d1 d2 d3 d4 d5 d6 d7 t0 t1 a0 a1 a2
    refine (fitsM_any x (upN y.v 0 x.v (toN y.v 0 p)) (upN y.m (-1) x.m (toN y.m (-1) q)) (turn (near a y.i0 y.b0) x.i0 (bits .andNot .u8 x.b0 y.b0)) (turn (near b y.i1 y.b1) x.i1 (bits .andNot .u8 x.b1 y.b1)) (turn (near c y.i2 y.b2) x.i2 (bits .andNot .u8 x.b2 y.b2)) _).mono ?_
    rw [fitsM_is, Vx.out]
    rintro e w7 ⟨rfl, hb⟩
    replace h7 := h7.below hb h7.lt
    replace h8 := h8.below hb h8.lt
    replace ht := ht.below hb ht.lt
    replace hh := hh.below hb hh.lt
    replace hB := hB.trans (hb.mono hB.size)
    clear hb
    go_wp2_with fail
    refine (worksM_any _).mono ?_
    rintro e w8 ⟨rfl, hb⟩
    replace hB := hB.trans (hb.mono hB.size)
    clear hb
    go_wp2_with fail
    go_ret
    exact ⟨rfl, hB⟩
theorem MaskCovers_walk (z0 z1 z2 : List Int) (w : World) (l0 : z0.length = 16) (h0 : ∀ p ∈ [IntKind.i64, .i64, .u8, .u8, .u8, .u8, .u8, .u8, .i64, .i64, .u8, .u8, .u8, .u8, .u8, .u8].zip z0, (Lit.int p.1 p.2).wf = true) (l1 : z1.length = 2) (h1 : ∀ p ∈ [IntKind.i64, .i64].zip z1, (Lit.int p.1 p.2).wf = true) (l2 : z2.length = 3) (h2 : ∀ p ∈ [IntKind.u8, .u8, .u8].zip z2, (Lit.int p.1 p.2).wf = true) :
    Calls Try.prog 12 #[.agg (List.zipWith Value.int [.i64, .i64, .u8, .u8, .u8, .u8, .u8, .u8, .i64, .i64, .u8, .u8, .u8, .u8, .u8, .u8] z0).toArray, .agg (List.zipWith Value.int [.i64, .i64] z1).toArray, .agg (List.zipWith Value.int [.u8, .u8, .u8] z2).toArray] w fun e w' => e = .returned (.bool true) ∧ Below w.heap.size w w' := by
  obtain ⟨x, y, rfl, hx, hy⟩ := masks_of z0 l0 h0
  obtain ⟨p, q, rfl⟩ := two_of z1 l1
  obtain ⟨a, b, c, rfl, _⟩ := header_of z2 l2 h2
  exact maskCovers_any x y p q a b c hx hy w
end Go.Proofs.Ytaaflgaeeldkhaa.Oct
