/- The walk of MaskBoth. -/
import Derived.Test.YtaaflgaeeldkhaaMskW
import Derived.Test.YtaaflgaeeldkhaaMskX
import Derived.Deep.CutRange
namespace Go.Proofs.Ytaaflgaeeldkhaa.Oct
open Go.RowKit
set_option linter.unusedVariables false
set_option linter.unusedSimpArgs false

set_option maxRecDepth 100000 in
set_option maxHeartbeats 8000000 in
theorem maskBoth_any (x y : MaskV) (p q a b c : Int) (w : World) : Calls Try.prog 11 #[.agg #[.int .i64 x.v, .int .i64 x.m, .int .u8 x.b0, .int .u8 x.b1, .int .u8 x.b2, .int .u8 x.i0, .int .u8 x.i1, .int .u8 x.i2, .int .i64 y.v, .int .i64 y.m, .int .u8 y.b0, .int .u8 y.b1, .int .u8 y.b2, .int .u8 y.i0, .int .u8 y.i1, .int .u8 y.i2], .agg #[.int .i64 p, .int .i64 q], .agg #[.int .u8 a, .int .u8 b, .int .u8 c]] w fun e w' => e = .returned (.bool true) ∧ Below w.heap.size w w' := by
  have hl : Vb 62 (((w.alloc (.cells #[.int .i64 x.v, .int .i64 x.m, .int .u8 x.b0, .int .u8 x.b1, .int .u8 x.b2, .int .u8 x.i0, .int .u8 x.i1, .int .u8 x.i2, .int .i64 y.v, .int .i64 y.m, .int .u8 y.b0, .int .u8 y.b1, .int .u8 y.b2, .int .u8 y.i0, .int .u8 y.i1, .int .u8 y.i2] 62)).alloc (.cells #[.int .i64 p, .int .i64 q] 52)).alloc (.cells #[.int .u8 a, .int .u8 b, .int .u8 c] 23)) w.heap.size [.int .i64 x.v, .int .i64 x.m, .int .u8 x.b0, .int .u8 x.b1, .int .u8 x.b2, .int .u8 x.i0, .int .u8 x.i1, .int .u8 x.i2, .int .i64 y.v, .int .i64 y.m, .int .u8 y.b0, .int .u8 y.b1, .int .u8 y.b2, .int .u8 y.i0, .int .u8 y.i1, .int .u8 y.i2] := ((Vb.new 62 w [.int .i64 x.v, .int .i64 x.m, .int .u8 x.b0, .int .u8 x.b1, .int .u8 x.b2, .int .u8 x.i0, .int .u8 x.i1, .int .u8 x.i2, .int .i64 y.v, .int .i64 y.m, .int .u8 y.b0, .int .u8 y.b1, .int .u8 y.b2, .int .u8 y.i0, .int .u8 y.i1, .int .u8 y.i2]).alloc _).alloc _
  have ht : Vb 52 (((w.alloc (.cells #[.int .i64 x.v, .int .i64 x.m, .int .u8 x.b0, .int .u8 x.b1, .int .u8 x.b2, .int .u8 x.i0, .int .u8 x.i1, .int .u8 x.i2, .int .i64 y.v, .int .i64 y.m, .int .u8 y.b0, .int .u8 y.b1, .int .u8 y.b2, .int .u8 y.i0, .int .u8 y.i1, .int .u8 y.i2] 62)).alloc (.cells #[.int .i64 p, .int .i64 q] 52)).alloc (.cells #[.int .u8 a, .int .u8 b, .int .u8 c] 23)) (w.heap.size + 1) [.int .i64 p, .int .i64 q] := by have := (Vb.new 52 (w.alloc (.cells #[.int .i64 x.v, .int .i64 x.m, .int .u8 x.b0, .int .u8 x.b1, .int .u8 x.b2, .int .u8 x.i0, .int .u8 x.i1, .int .u8 x.i2, .int .i64 y.v, .int .i64 y.m, .int .u8 y.b0, .int .u8 y.b1, .int .u8 y.b2, .int .u8 y.i0, .int .u8 y.i1, .int .u8 y.i2] 62)) [.int .i64 p, .int .i64 q]).alloc (.cells #[.int .u8 a, .int .u8 b, .int .u8 c] 23); simpa using this
  have hh : Vb 23 (((w.alloc (.cells #[.int .i64 x.v, .int .i64 x.m, .int .u8 x.b0, .int .u8 x.b1, .int .u8 x.b2, .int .u8 x.i0, .int .u8 x.i1, .int .u8 x.i2, .int .i64 y.v, .int .i64 y.m, .int .u8 y.b0, .int .u8 y.b1, .int .u8 y.b2, .int .u8 y.i0, .int .u8 y.i1, .int .u8 y.i2] 62)).alloc (.cells #[.int .i64 p, .int .i64 q] 52)).alloc (.cells #[.int .u8 a, .int .u8 b, .int .u8 c] 23)) (w.heap.size + 2) [.int .u8 a, .int .u8 b, .int .u8 c] := by have := Vb.new 23 ((w.alloc (.cells #[.int .i64 x.v, .int .i64 x.m, .int .u8 x.b0, .int .u8 x.b1, .int .u8 x.b2, .int .u8 x.i0, .int .u8 x.i1, .int .u8 x.i2, .int .i64 y.v, .int .i64 y.m, .int .u8 y.b0, .int .u8 y.b1, .int .u8 y.b2, .int .u8 y.i0, .int .u8 y.i1, .int .u8 y.i2] 62)).alloc (.cells #[.int .i64 p, .int .i64 q] 52)) [.int .u8 a, .int .u8 b, .int .u8 c]; simpa using this
  have hB := (below_two w (.cells #[.int .i64 x.v, .int .i64 x.m, .int .u8 x.b0, .int .u8 x.b1, .int .u8 x.b2, .int .u8 x.i0, .int .u8 x.i1, .int .u8 x.i2, .int .i64 y.v, .int .i64 y.m, .int .u8 y.b0, .int .u8 y.b1, .int .u8 y.b2, .int .u8 y.i0, .int .u8 y.i1, .int .u8 y.i2] 62) (.cells #[.int .i64 p, .int .i64 q] 52)).alloc (by simp; omega) (.cells #[.int .u8 a, .int .u8 b, .int .u8 c] 23)
  have HE := Kp.mk (fun p q a b c => fits_meet x y p q a b c)
  go_enter Try.func11, Try.ntmps11
  go_upto_region 1 with fail
  generalize ((w.alloc (.cells #[.int .i64 x.v, .int .i64 x.m, .int .u8 x.b0, .int .u8 x.b1, .int .u8 x.b2, .int .u8 x.i0, .int .u8 x.i1, .int .u8 x.i2, .int .i64 y.v, .int .i64 y.m, .int .u8 y.b0, .int .u8 y.b1, .int .u8 y.b2, .int .u8 y.i0, .int .u8 y.i1, .int .u8 y.i2] 62)).alloc (.cells #[.int .i64 p, .int .i64 q] 52)).alloc (.cells #[.int .u8 a, .int .u8 b, .int .u8 c] 23) = w0 at *
  go_cut [7, 8] from 15 (fun v v' wx => ∃ g1 g2, w.heap.size + 2 < g1 ∧ w.heap.size + 2 < g2 ∧ g1 ≠ g2 ∧ v = .pointer (some ⟨g1, 0, none⟩) ∧ v' = .pointer (some ⟨g2, 0, none⟩) ∧ Vb 25 wx g1 [.int .i64 x.v, .int .i64 x.m, .int .u8 x.b0, .int .u8 x.b1, .int .u8 x.b2, .int .u8 x.i0, .int .u8 x.i1, .int .u8 x.i2] ∧ Vb 25 wx g2 [.int .i64 y.v, .int .i64 y.m, .int .u8 y.b0, .int .u8 y.b1, .int .u8 y.b2, .int .u8 y.i0, .int .u8 y.i1, .int .u8 y.i2] ∧ Vb 52 wx (w.heap.size + 1) [.int .i64 p, .int .i64 q] ∧ Vb 23 wx (w.heap.size + 2) [.int .u8 a, .int .u8 b, .int .u8 c] ∧ Below w.heap.size w wx)
  case first =>
    replace hB : Below w.heap.size w w0.drew := hB.drew
    have hlt : w.heap.size + 2 < w0.drew.heap.size := hh.lt
    have hS0 : (fun W => Vb 62 W w.heap.size [.int .i64 x.v, .int .i64 x.m, .int .u8 x.b0, .int .u8 x.b1, .int .u8 x.b2, .int .u8 x.i0, .int .u8 x.i1, .int .u8 x.i2, .int .i64 y.v, .int .i64 y.m, .int .u8 y.b0, .int .u8 y.b1, .int .u8 y.b2, .int .u8 y.i0, .int .u8 y.i1, .int .u8 y.i2] ∧ Vb 52 W (w.heap.size + 1) [.int .i64 p, .int .i64 q] ∧ Vb 23 W (w.heap.size + 2) [.int .u8 a, .int .u8 b, .int .u8 c]) w0.drew := ⟨hl, ht, hh⟩
    refine wp_region_held_drew (S := fun W => Vb 62 W w.heap.size [.int .i64 x.v, .int .i64 x.m, .int .u8 x.b0, .int .u8 x.b1, .int .u8 x.b2, .int .u8 x.i0, .int .u8 x.i1, .int .u8 x.i2, .int .i64 y.v, .int .i64 y.m, .int .u8 y.b0, .int .u8 y.b1, .int .u8 y.b2, .int .u8 y.i0, .int .u8 y.i1, .int .u8 y.i2] ∧ Vb 52 W (w.heap.size + 1) [.int .i64 p, .int .i64 q] ∧ Vb 23 W (w.heap.size + 2) [.int .u8 a, .int .u8 b, .int .u8 c]) (by kernel_rfl) hS0 (fun _ => ?_)
    clear hl ht hh
    generalize w0.drew = u0 at *
    refine takeD (i := 0) (v := .pointer (some ⟨w.heap.size, 0, none⟩)) (some 15) rfl rfl (by kernel_rfl) (by kernel_rfl) (by kernel_rfl) (fun _ _ _ h => h) (Or.inl ⟨by rfl, ?_⟩) hS0 ?_
    · rintro w' _
      go_simp
    try simp only [Act.put, List.setIfInBounds_toArray, List.set_cons_zero, List.set_cons_succ]
    refine takeD (i := 1) (v := .agg #[.int .i64 x.v, .int .i64 x.m, .int .u8 x.b0, .int .u8 x.b1, .int .u8 x.b2, .int .u8 x.i0, .int .u8 x.i1, .int .u8 x.i2]) (some 16) rfl rfl (by kernel_rfl) (by kernel_rfl) (by kernel_rfl) (fun _ _ _ h => h) (Or.inl ⟨by rfl, ?_⟩) hS0 ?_
    · rintro w' ⟨s0, s1, s2⟩
      have d0 := s0.cell 0 rfl
      have d1 := s0.cell 1 rfl
      have d2 := s0.cell 2 rfl
      have d3 := s0.cell 3 rfl
      have d4 := s0.cell 4 rfl
      have d5 := s0.cell 5 rfl
      have d6 := s0.cell 6 rfl
      have d7 := s0.cell 7 rfl
      go_simp
    try simp only [Act.put, List.setIfInBounds_toArray, List.set_cons_zero, List.set_cons_succ]
    refine takeD (i := 2) (v := .pointer (some ⟨w.heap.size, 8, none⟩)) (some 17) rfl rfl (by kernel_rfl) (by kernel_rfl) (by kernel_rfl) (fun _ _ _ h => h) (Or.inl ⟨by rfl, ?_⟩) hS0 ?_
    · rintro w' _
      go_simp
    try simp only [Act.put, List.setIfInBounds_toArray, List.set_cons_zero, List.set_cons_succ]
    refine takeD (i := 3) (v := .agg #[.int .i64 y.v, .int .i64 y.m, .int .u8 y.b0, .int .u8 y.b1, .int .u8 y.b2, .int .u8 y.i0, .int .u8 y.i1, .int .u8 y.i2]) (some 18) rfl rfl (by kernel_rfl) (by kernel_rfl) (by kernel_rfl) (fun _ _ _ h => h) (Or.inl ⟨by rfl, ?_⟩) hS0 ?_
    · rintro w' ⟨s0, s1, s2⟩
      have d0 := s0.cell 8 rfl
      have d1 := s0.cell 9 rfl
      have d2 := s0.cell 10 rfl
      have d3 := s0.cell 11 rfl
      have d4 := s0.cell 12 rfl
      have d5 := s0.cell 13 rfl
      have d6 := s0.cell 14 rfl
      have d7 := s0.cell 15 rfl
      go_simp
    try simp only [Act.put, List.setIfInBounds_toArray, List.set_cons_zero, List.set_cons_succ]
    refine wpAnyH_ready (rs := [4, 5]) (by kernel_rfl) (by simp) ?_
    refine AllReadyH.cons rfl (fun K hK => ?_) (AllReadyH.cons rfl (fun K hK => ?_) AllReadyH.nil)
    · try rw [if_pos (by rfl)]
      go_simp
      have b1 := below_alloc u0 (.cells #[.int .i64 0, .int .i64 0, .int .u8 0, .int .u8 0, .int .u8 0, .int .u8 0, .int .u8 0, .int .u8 0] 25)
      have h7 : Vb 25 (u0.alloc (.cells #[.int .i64 0, .int .i64 0, .int .u8 0, .int .u8 0, .int .u8 0, .int .u8 0, .int .u8 0, .int .u8 0] 25)) u0.heap.size [.int .i64 0, .int .i64 0, .int .u8 0, .int .u8 0, .int .u8 0, .int .u8 0, .int .u8 0, .int .u8 0] := Vb.new 25 u0 [.int .i64 0, .int .i64 0, .int .u8 0, .int .u8 0, .int .u8 0, .int .u8 0, .int .u8 0, .int .u8 0]
      have z1 : u0.heap.size < (u0.alloc (.cells #[.int .i64 0, .int .i64 0, .int .u8 0, .int .u8 0, .int .u8 0, .int .u8 0, .int .u8 0, .int .u8 0] 25)).heap.size := h7.lt
      have hB1 := hB.trans (b1.mono hB.size)
      refine hK.out _ _ (⟨hS0.1.below b1 hS0.1.lt, hS0.2.1.below b1 hS0.2.1.lt, hS0.2.2.below b1 hS0.2.2.lt⟩) (fun hS1 => ?_)
      clear hK K
      try simp only [Act.put, List.setIfInBounds_toArray, List.set_cons_zero, List.set_cons_succ]
      clear b1
      generalize u0.alloc (.cells #[.int .i64 0, .int .i64 0, .int .u8 0, .int .u8 0, .int .u8 0, .int .u8 0, .int .u8 0, .int .u8 0] 25) = u1 at *
      generalize u0.heap.size = g1 at *
      refine wpAnyH_ready (rs := [5]) (by kernel_rfl) (by simp) ?_
      refine AllReadyH.cons rfl (fun K hK => ?_) AllReadyH.nil
      try rw [if_pos (by rfl)]
      go_simp
      have b2 := below_alloc u1 (.cells #[.int .i64 0, .int .i64 0, .int .u8 0, .int .u8 0, .int .u8 0, .int .u8 0, .int .u8 0, .int .u8 0] 25)
      have h8 : Vb 25 (u1.alloc (.cells #[.int .i64 0, .int .i64 0, .int .u8 0, .int .u8 0, .int .u8 0, .int .u8 0, .int .u8 0, .int .u8 0] 25)) u1.heap.size [.int .i64 0, .int .i64 0, .int .u8 0, .int .u8 0, .int .u8 0, .int .u8 0, .int .u8 0, .int .u8 0] := Vb.new 25 u1 [.int .i64 0, .int .i64 0, .int .u8 0, .int .u8 0, .int .u8 0, .int .u8 0, .int .u8 0, .int .u8 0]
      replace h7 := h7.below b2 h7.lt
      have hB2 := hB1.trans (b2.mono hB1.size)
      refine hK.out _ _ (⟨hS1.1.below b2 hS1.1.lt, hS1.2.1.below b2 hS1.2.1.lt, hS1.2.2.below b2 hS1.2.2.lt⟩) (fun hS2 => ?_)
      clear hK K b2
      try simp only [Act.put, List.setIfInBounds_toArray, List.set_cons_zero, List.set_cons_succ]
      generalize u1.alloc (.cells #[.int .i64 0, .int .i64 0, .int .u8 0, .int .u8 0, .int .u8 0, .int .u8 0, .int .u8 0, .int .u8 0] 25) = u2 at *
      generalize u1.heap.size = g2 at *
      clear hS0 hS1 hB1
      refine wpAnyH_ready (rs := [6]) (by kernel_rfl) (by simp) ?_
      refine AllReadyH.cons rfl (fun K hK => ?_) AllReadyH.nil
      try rw [if_pos (by rfl)]
      refine wp_store_vb (vs := [.int .i64 x.v, .int .i64 x.m, .int .u8 x.b0, .int .u8 x.b1, .int .u8 x.b2, .int .u8 x.i0, .int .u8 x.i1, .int .u8 x.i2]) none rfl (.tmp 7) (.tmp 16) rfl rfl rfl h7 rfl agg_mask rfl ?_
      intro u3 h7' hg hz
      replace h8 := h8.grown hg (by omega)
      have hB3 := hB2.grown hg (by have := h7.lt; omega) (fun k e => by simp at e; omega)
      have hS3 := And.intro (hS2.1.grown hg (by omega)) (And.intro (hS2.2.1.grown hg (by omega)) (hS2.2.2.grown hg (by omega)))
      refine hK.out _ _ hS3 (fun _ => ?_)
      clear hK K hg hz hS2 hB2 h7
      try simp only [Act.put, List.setIfInBounds_toArray, List.set_cons_zero, List.set_cons_succ]
      refine wpAnyH_ready (rs := [7]) (by kernel_rfl) (by simp) ?_
      refine AllReadyH.cons rfl (fun K hK => ?_) AllReadyH.nil
      try rw [if_pos (by rfl)]
      refine wp_store_vb (vs := [.int .i64 y.v, .int .i64 y.m, .int .u8 y.b0, .int .u8 y.b1, .int .u8 y.b2, .int .u8 y.i0, .int .u8 y.i1, .int .u8 y.i2]) none rfl (.tmp 8) (.tmp 18) rfl rfl rfl h8 rfl agg_mask rfl ?_
      intro u4 h8' hg hz
      replace h7' := h7'.grown hg (by omega)
      have hB4 := hB3.grown hg (by have := h8.lt; omega) (fun k e => by simp at e; omega)
      have hS4 := And.intro (hS3.1.grown hg (by omega)) (And.intro (hS3.2.1.grown hg (by omega)) (hS3.2.2.grown hg (by omega)))
      refine hK.out _ _ hS4 (fun _ => ?_)
      clear hK K hg hz hS3 hB3 h8
      try simp only [Act.put, List.setIfInBounds_toArray, List.set_cons_zero, List.set_cons_succ]
      refine wpAnyH_done (by kernel_rfl) ?_ _
      go_wp2_with fail
      go_meet
      case rel => exact ⟨g1, g2, by omega, by omega, by omega, rfl, rfl, h7', h8', hS4.2.1, hS4.2.2, hB4⟩
    · try rw [if_pos (by rfl)]
      go_simp
      have b1 := below_alloc u0 (.cells #[.int .i64 0, .int .i64 0, .int .u8 0, .int .u8 0, .int .u8 0, .int .u8 0, .int .u8 0, .int .u8 0] 25)
      have h8 : Vb 25 (u0.alloc (.cells #[.int .i64 0, .int .i64 0, .int .u8 0, .int .u8 0, .int .u8 0, .int .u8 0, .int .u8 0, .int .u8 0] 25)) u0.heap.size [.int .i64 0, .int .i64 0, .int .u8 0, .int .u8 0, .int .u8 0, .int .u8 0, .int .u8 0, .int .u8 0] := Vb.new 25 u0 [.int .i64 0, .int .i64 0, .int .u8 0, .int .u8 0, .int .u8 0, .int .u8 0, .int .u8 0, .int .u8 0]
      have z1 : u0.heap.size < (u0.alloc (.cells #[.int .i64 0, .int .i64 0, .int .u8 0, .int .u8 0, .int .u8 0, .int .u8 0, .int .u8 0, .int .u8 0] 25)).heap.size := h8.lt
      have hB1 := hB.trans (b1.mono hB.size)
      refine hK.out _ _ (⟨hS0.1.below b1 hS0.1.lt, hS0.2.1.below b1 hS0.2.1.lt, hS0.2.2.below b1 hS0.2.2.lt⟩) (fun hS1 => ?_)
      clear hK K
      try simp only [Act.put, List.setIfInBounds_toArray, List.set_cons_zero, List.set_cons_succ]
      clear b1
      generalize u0.alloc (.cells #[.int .i64 0, .int .i64 0, .int .u8 0, .int .u8 0, .int .u8 0, .int .u8 0, .int .u8 0, .int .u8 0] 25) = u1 at *
      generalize u0.heap.size = g2 at *
      refine wpAnyH_ready (rs := [4]) (by kernel_rfl) (by simp) ?_
      refine AllReadyH.cons rfl (fun K hK => ?_) AllReadyH.nil
      try rw [if_pos (by rfl)]
      go_simp
      have b2 := below_alloc u1 (.cells #[.int .i64 0, .int .i64 0, .int .u8 0, .int .u8 0, .int .u8 0, .int .u8 0, .int .u8 0, .int .u8 0] 25)
      have h7 : Vb 25 (u1.alloc (.cells #[.int .i64 0, .int .i64 0, .int .u8 0, .int .u8 0, .int .u8 0, .int .u8 0, .int .u8 0, .int .u8 0] 25)) u1.heap.size [.int .i64 0, .int .i64 0, .int .u8 0, .int .u8 0, .int .u8 0, .int .u8 0, .int .u8 0, .int .u8 0] := Vb.new 25 u1 [.int .i64 0, .int .i64 0, .int .u8 0, .int .u8 0, .int .u8 0, .int .u8 0, .int .u8 0, .int .u8 0]
      replace h8 := h8.below b2 h8.lt
      have hB2 := hB1.trans (b2.mono hB1.size)
      refine hK.out _ _ (⟨hS1.1.below b2 hS1.1.lt, hS1.2.1.below b2 hS1.2.1.lt, hS1.2.2.below b2 hS1.2.2.lt⟩) (fun hS2 => ?_)
      clear hK K b2
      try simp only [Act.put, List.setIfInBounds_toArray, List.set_cons_zero, List.set_cons_succ]
      generalize u1.alloc (.cells #[.int .i64 0, .int .i64 0, .int .u8 0, .int .u8 0, .int .u8 0, .int .u8 0, .int .u8 0, .int .u8 0] 25) = u2 at *
      generalize u1.heap.size = g1 at *
      clear hS0 hS1 hB1
      refine wpAnyH_ready (rs := [6]) (by kernel_rfl) (by simp) ?_
      refine AllReadyH.cons rfl (fun K hK => ?_) AllReadyH.nil
      try rw [if_pos (by rfl)]
      refine wp_store_vb (vs := [.int .i64 x.v, .int .i64 x.m, .int .u8 x.b0, .int .u8 x.b1, .int .u8 x.b2, .int .u8 x.i0, .int .u8 x.i1, .int .u8 x.i2]) none rfl (.tmp 7) (.tmp 16) rfl rfl rfl h7 rfl agg_mask rfl ?_
      intro u3 h7' hg hz
      replace h8 := h8.grown hg (by omega)
      have hB3 := hB2.grown hg (by have := h7.lt; omega) (fun k e => by simp at e; omega)
      have hS3 := And.intro (hS2.1.grown hg (by omega)) (And.intro (hS2.2.1.grown hg (by omega)) (hS2.2.2.grown hg (by omega)))
      refine hK.out _ _ hS3 (fun _ => ?_)
      clear hK K hg hz hS2 hB2 h7
      try simp only [Act.put, List.setIfInBounds_toArray, List.set_cons_zero, List.set_cons_succ]
      refine wpAnyH_ready (rs := [7]) (by kernel_rfl) (by simp) ?_
      refine AllReadyH.cons rfl (fun K hK => ?_) AllReadyH.nil
      try rw [if_pos (by rfl)]
      refine wp_store_vb (vs := [.int .i64 y.v, .int .i64 y.m, .int .u8 y.b0, .int .u8 y.b1, .int .u8 y.b2, .int .u8 y.i0, .int .u8 y.i1, .int .u8 y.i2]) none rfl (.tmp 8) (.tmp 18) rfl rfl rfl h8 rfl agg_mask rfl ?_
      intro u4 h8' hg hz
      replace h7' := h7'.grown hg (by omega)
      have hB4 := hB3.grown hg (by have := h8.lt; omega) (fun k e => by simp at e; omega)
      have hS4 := And.intro (hS3.1.grown hg (by omega)) (And.intro (hS3.2.1.grown hg (by omega)) (hS3.2.2.grown hg (by omega)))
      refine hK.out _ _ hS4 (fun _ => ?_)
      clear hK K hg hz hS3 hB3 h8
      try simp only [Act.put, List.setIfInBounds_toArray, List.set_cons_zero, List.set_cons_succ]
      refine wpAnyH_done (by kernel_rfl) ?_ _
      go_wp2_with fail
      go_meet
      case rel => exact ⟨g1, g2, by omega, by omega, by omega, rfl, rfl, h7', h8', hS4.2.1, hS4.2.2, hB4⟩
  case rest =>
    clear hl ht hh hB
    obtain ⟨g1, g2, l1, l2, l3, rfl, rfl, h7, h8, ht, hh, hB⟩ := hcut
    go_wp2_with fail
    refine (worksM_any _).mono ?_
    rintro e w2 ⟨rfl, hb⟩
    replace h7 := h7.below hb h7.lt
    replace h8 := h8.below hb h8.lt
    replace ht := ht.below hb ht.lt
    replace hh := hh.below hb hh.lt
    replace hB := hB.trans (hb.mono hB.size)
    clear hb
    go_wp2_with (first | refine wpList_load_vb (vs := [.int .i64 x.v, .int .i64 x.m, .int .u8 x.b0, .int .u8 x.b1, .int .u8 x.b2, .int .u8 x.i0, .int .u8 x.i1, .int .u8 x.i2]) rfl (.tmp 7) rfl rfl h7 rfl agg_mask ?_ | refine wpList_load_vb (vs := [.int .i64 y.v, .int .i64 y.m, .int .u8 y.b0, .int .u8 y.b1, .int .u8 y.b2, .int .u8 y.i0, .int .u8 y.i1, .int .u8 y.i2]) rfl (.tmp 8) rfl rfl h8 rfl agg_mask ?_)
    refine (meet_any x y _).mono ?_
    rintro e w3 ⟨rfl, hb⟩
    replace h7 := h7.below hb h7.lt
    replace h8 := h8.below hb h8.lt
    replace ht := ht.below hb ht.lt
    replace hh := hh.below hb hh.lt
    replace hB := hB.trans (hb.mono hB.size)
    clear hb
    have hm : (mcl (meetV x y)).toArray = #[.int .i64 (meetV x y).v, .int .i64 (meetV x y).m, .int .u8 (meetV x y).b0, .int .u8 (meetV x y).b1, .int .u8 (meetV x y).b2, .int .u8 (meetV x y).i0, .int .u8 (meetV x y).i1, .int .u8 (meetV x y).i2] := rfl
    rw [hm]
    clear hm
    generalize meetV x y = m at *
    generalize meetB x y = k at *
    have l4 := h7.lt
    have l5 := h8.lt
    have l6 := hh.lt
    go_upto_region 5 with (refine wpList_store_new (vs := [.int .i64 m.v, .int .i64 m.m, .int .u8 m.b0, .int .u8 m.b1, .int .u8 m.b2, .int .u8 m.i0, .int .u8 m.i1, .int .u8 m.i2]) rfl (.tmp 9) (.tmp 25) rfl rfl rfl rfl rfl rfl agg_mask rfl ?_; intro w4 h9 hb2 hz2)
    replace h7 := h7.below hb2 h7.lt
    replace h8 := h8.below hb2 h8.lt
    replace ht := ht.below hb2 ht.lt
    replace hh := hh.below hb2 hh.lt
    replace hB := hB.trans (hb2.mono hB.size)
    clear hb2 hz2
    generalize w3.heap.size = g3 at *
    go_wp2_with fail
    refine wp_loop_rounds (3 + 1) ?_
    rw [rounds_succ]
    go_upto_region 8 with fail
    go_cut [12] from 31 to 105 (fun v wx => v = .bool (fitsR x p q a b c && fitsR y p q a b c) ∧ Vb 25 wx g1 [.int .i64 x.v, .int .i64 x.m, .int .u8 x.b0, .int .u8 x.b1, .int .u8 x.b2, .int .u8 x.i0, .int .u8 x.i1, .int .u8 x.i2] ∧ Vb 25 wx g2 [.int .i64 y.v, .int .i64 y.m, .int .u8 y.b0, .int .u8 y.b1, .int .u8 y.b2, .int .u8 y.i0, .int .u8 y.i1, .int .u8 y.i2] ∧ Vb 25 wx g3 [.int .i64 m.v, .int .i64 m.m, .int .u8 m.b0, .int .u8 m.b1, .int .u8 m.b2, .int .u8 m.i0, .int .u8 m.i1, .int .u8 m.i2] ∧ Vb 52 wx (w.heap.size + 1) [.int .i64 p, .int .i64 q] ∧ Vb 23 wx (w.heap.size + 2) [.int .u8 a, .int .u8 b, .int .u8 c] ∧ Below w.heap.size w wx)
    case first => as_aux_lemma =>
      obtain ⟨d0, d1, d2, d3, d4, d5, d6, d7⟩ := h7.c8
      have t0 := ht.cell 0 rfl
      have t1 := ht.cell 1 rfl
      have a0 := hh.cell 0 rfl
      have a1 := hh.cell 1 rfl
      have a2 := hh.cell 2 rfl
      go_wp2_with fail
      clear d0 d1 d2 d3 d4 d5 d6 d7 t0 t1 a0 a1 a2
      refine (fitsM_any x p q a b c _).mono ?_
      rw [fitsM_is]
      rintro e w8 ⟨rfl, hb⟩
      replace h7 := h7.below hb h7.lt
      replace h8 := h8.below hb h8.lt
      replace h9 := h9.below hb h9.lt
      replace ht := ht.below hb ht.lt
      replace hh := hh.below hb hh.lt
      replace hB := hB.trans (hb.mono hB.size)
      clear hb
      generalize fitsR x p q a b c = fa at *
      cases fa
      · go_wp2_with fail
        go_meet
        case rel => exact ⟨rfl, h7, h8, h9, ht, hh, hB⟩
      obtain ⟨d0, d1, d2, d3, d4, d5, d6, d7⟩ := h8.c8
      have t0 := ht.cell 0 rfl
      have t1 := ht.cell 1 rfl
      have a0 := hh.cell 0 rfl
      have a1 := hh.cell 1 rfl
      have a2 := hh.cell 2 rfl
      go_wp2_with fail
      clear d0 d1 d2 d3 d4 d5 d6 d7 t0 t1 a0 a1 a2
      refine (fitsM_any y p q a b c _).mono ?_
      rw [fitsM_is]
      rintro e w9 ⟨rfl, hb⟩
      replace h7 := h7.below hb h7.lt
      replace h8 := h8.below hb h8.lt
      replace h9 := h9.below hb h9.lt
      replace ht := ht.below hb ht.lt
      replace hh := hh.below hb hh.lt
      replace hB := hB.trans (hb.mono hB.size)
      clear hb
      generalize fitsR y p q a b c = fb at *
      go_wp2_with fail
      go_meet
      case rel => exact ⟨rfl, h7, h8, h9, ht, hh, hB⟩
    clear h7 h8 h9 ht hh hB
    obtain ⟨rfl, h7, h8, h9, ht, hh, hB⟩ := hcut
    have hbo := Kp.mk (HE.out p q a b c)
    generalize (fitsR x p q a b c && fitsR y p q a b c) = bo at *
    go_upto_region 9 with fail
    go_cut [65] from 47 to 105 (fun v wx => v = .bool false ∧ Vb 25 wx g1 [.int .i64 x.v, .int .i64 x.m, .int .u8 x.b0, .int .u8 x.b1, .int .u8 x.b2, .int .u8 x.i0, .int .u8 x.i1, .int .u8 x.i2] ∧ Vb 25 wx g2 [.int .i64 y.v, .int .i64 y.m, .int .u8 y.b0, .int .u8 y.b1, .int .u8 y.b2, .int .u8 y.i0, .int .u8 y.i1, .int .u8 y.i2] ∧ Vb 25 wx g3 [.int .i64 m.v, .int .i64 m.m, .int .u8 m.b0, .int .u8 m.b1, .int .u8 m.b2, .int .u8 m.i0, .int .u8 m.i1, .int .u8 m.i2] ∧ Vb 52 wx (w.heap.size + 1) [.int .i64 p, .int .i64 q] ∧ Vb 23 wx (w.heap.size + 2) [.int .u8 a, .int .u8 b, .int .u8 c] ∧ Below w.heap.size w wx)
    case first => as_aux_lemma =>
      have hbo := hbo.out
      cases k
      · obtain rfl : bo = false := hbo
        clear hbo
        go_wp2_with fail
        go_meet
        case rel => exact ⟨rfl, h7, h8, h9, ht, hh, hB⟩
      replace hbo : bo = fitsR m p q a b c := hbo
      have Hbo := Kp.mk hbo
      clear hbo
      cases bo
      · obtain ⟨d0, d1, d2, d3, d4, d5, d6, d7⟩ := h9.c8
        have t0 := ht.cell 0 rfl
        have t1 := ht.cell 1 rfl
        have a0 := hh.cell 0 rfl
        have a1 := hh.cell 1 rfl
        have a2 := hh.cell 2 rfl
        go_wp2_with fail
        clear d0 d1 d2 d3 d4 d5 d6 d7 t0 t1 a0 a1 a2
        refine (fitsM_any m p q a b c _).mono ?_
        rw [fitsM_is, ← Hbo.out]
        rintro e w9 ⟨rfl, hb⟩
        replace h7 := h7.below hb h7.lt
        replace h8 := h8.below hb h8.lt
        replace h9 := h9.below hb h9.lt
        replace ht := ht.below hb ht.lt
        replace hh := hh.below hb hh.lt
        replace hB := hB.trans (hb.mono hB.size)
        clear hb
        go_wp2_with fail
        go_meet
        case rel => exact ⟨rfl, h7, h8, h9, ht, hh, hB⟩
      · obtain ⟨d0, d1, d2, d3, d4, d5, d6, d7⟩ := h9.c8
        have t0 := ht.cell 0 rfl
        have t1 := ht.cell 1 rfl
        have a0 := hh.cell 0 rfl
        have a1 := hh.cell 1 rfl
        have a2 := hh.cell 2 rfl
        go_wp2_with fail
        clear d0 d1 d2 d3 d4 d5 d6 d7 t0 t1 a0 a1 a2
        refine (fitsM_any m p q a b c _).mono ?_
        rw [fitsM_is, ← Hbo.out]
        rintro e w9 ⟨rfl, hb⟩
        replace h7 := h7.below hb h7.lt
        replace h8 := h8.below hb h8.lt
        replace h9 := h9.below hb h9.lt
        replace ht := ht.below hb ht.lt
        replace hh := hh.below hb hh.lt
        replace hB := hB.trans (hb.mono hB.size)
        clear hb
        go_wp2_with fail
        go_meet
        case rel => exact ⟨rfl, h7, h8, h9, ht, hh, hB⟩
    clear h7 h8 h9 ht hh hB hbo
    obtain ⟨rfl, h7, h8, h9, ht, hh, hB⟩ := hcut
    have m4 := h7.lt
    have m5 := h8.lt
    have m6 := h9.lt
    have m7 := hh.lt
    go_upto_region 12 with (first | refine wpList_load_vb (vs := [.int .i64 x.v, .int .i64 x.m, .int .u8 x.b0, .int .u8 x.b1, .int .u8 x.b2, .int .u8 x.i0, .int .u8 x.i1, .int .u8 x.i2]) rfl (.tmp 7) rfl rfl h7 rfl agg_mask ?_ | (refine wpList_store_new (vs := [.int .i64 x.v, .int .i64 x.m, .int .u8 x.b0, .int .u8 x.b1, .int .u8 x.b2, .int .u8 x.i0, .int .u8 x.i1, .int .u8 x.i2]) rfl (.tmp 13) (.tmp 66) rfl rfl rfl rfl rfl rfl agg_mask rfl ?_; intro wn0 hz hb2 hz2))
    replace h7 := h7.below hb2 h7.lt
    replace h8 := h8.below hb2 h8.lt
    replace h9 := h9.below hb2 h9.lt
    replace ht := ht.below hb2 ht.lt
    replace hh := hh.below hb2 hh.lt
    replace hB := hB.trans (hb2.mono hB.size)
    clear hb2 hz2
    generalize wc.heap.size = g at *
    go_upto_region 14 with fail
    have c0 := hz.cell 0 rfl
    have hf := ht.free
    have t0 := ht.cell 0 rfl
    go_upto_if 72 with fail
    go_cut [] from 73 to 105 (fun wx => ∃ vp1, Vb 25 wx g1 [.int .i64 x.v, .int .i64 x.m, .int .u8 x.b0, .int .u8 x.b1, .int .u8 x.b2, .int .u8 x.i0, .int .u8 x.i1, .int .u8 x.i2] ∧ Vb 25 wx g2 [.int .i64 y.v, .int .i64 y.m, .int .u8 y.b0, .int .u8 y.b1, .int .u8 y.b2, .int .u8 y.i0, .int .u8 y.i1, .int .u8 y.i2] ∧ Vb 25 wx g3 [.int .i64 m.v, .int .i64 m.m, .int .u8 m.b0, .int .u8 m.b1, .int .u8 m.b2, .int .u8 m.i0, .int .u8 m.i1, .int .u8 m.i2] ∧ Vb 25 wx g [.int .i64 x.v, .int .i64 x.m, .int .u8 x.b0, .int .u8 x.b1, .int .u8 x.b2, .int .u8 x.i0, .int .u8 x.i1, .int .u8 x.i2] ∧ Vb 52 wx (w.heap.size + 1) [.int .i64 vp1, .int .i64 q] ∧ Vb 23 wx (w.heap.size + 2) [.int .u8 a, .int .u8 b, .int .u8 c] ∧ Below w.heap.size w wx)
    case first => as_aux_lemma =>
      by_cases hv : (x.v != 0) = true
      · have st : Vb 52 (wn0.setCell ⟨w.heap.size + 1, 0, none⟩ (.int .i64 x.v)) (w.heap.size + 1) [.int .i64 x.v, .int .i64 q] := ht.set 0 _
        have s_h7 := h7.other (r := w.heap.size + 1) (by omega) 0 (.int .i64 x.v)
        have s_h8 := h8.other (r := w.heap.size + 1) (by omega) 0 (.int .i64 x.v)
        have s_h9 := h9.other (r := w.heap.size + 1) (by omega) 0 (.int .i64 x.v)
        have s_hz := hz.other (r := w.heap.size + 1) (by omega) 0 (.int .i64 x.v)
        have s_hh := hh.other (r := w.heap.size + 1) (by omega) 0 (.int .i64 x.v)
        have s_B := hB.setCell (p := ⟨w.heap.size + 1, 0, none⟩) (by simp) (.int .i64 x.v)
        have Hr := Kp.mk (And.intro s_h7 (And.intro s_h8 (And.intro s_h9 (And.intro s_hz (And.intro st (And.intro s_hh s_B))))))
        clear st s_h7 s_h8 s_h9 s_hz s_hh s_B h7 h8 h9 hz ht hh hB
        go_wp2_with fail
        go_meet
        case rel => exact ⟨_, Hr.out⟩
      · replace hv : (x.v != 0) = false := by simpa using hv
        have Hr := Kp.mk (And.intro h7 (And.intro h8 (And.intro h9 (And.intro hz (And.intro ht (And.intro hh hB))))))
        clear h7 h8 h9 hz ht hh hB
        go_wp2_with fail
        go_meet
        case rel => exact ⟨_, Hr.out⟩
    clear h7 h8 h9 hz ht hh hB c0 t0 hf
    obtain ⟨vp1, h7, h8, h9, hz, ht, hh, hB⟩ := hcut
    have c1 := hz.cell 1 rfl
    have hf := ht.free
    have t1 := ht.cell 1 rfl
    go_upto_if 78 with fail
    go_cut [] from 79 to 105 (fun wx => ∃ vq1, Vb 25 wx g1 [.int .i64 x.v, .int .i64 x.m, .int .u8 x.b0, .int .u8 x.b1, .int .u8 x.b2, .int .u8 x.i0, .int .u8 x.i1, .int .u8 x.i2] ∧ Vb 25 wx g2 [.int .i64 y.v, .int .i64 y.m, .int .u8 y.b0, .int .u8 y.b1, .int .u8 y.b2, .int .u8 y.i0, .int .u8 y.i1, .int .u8 y.i2] ∧ Vb 25 wx g3 [.int .i64 m.v, .int .i64 m.m, .int .u8 m.b0, .int .u8 m.b1, .int .u8 m.b2, .int .u8 m.i0, .int .u8 m.i1, .int .u8 m.i2] ∧ Vb 25 wx g [.int .i64 x.v, .int .i64 x.m, .int .u8 x.b0, .int .u8 x.b1, .int .u8 x.b2, .int .u8 x.i0, .int .u8 x.i1, .int .u8 x.i2] ∧ Vb 52 wx (w.heap.size + 1) [.int .i64 vp1, .int .i64 vq1] ∧ Vb 23 wx (w.heap.size + 2) [.int .u8 a, .int .u8 b, .int .u8 c] ∧ Below w.heap.size w wx)
    case first => as_aux_lemma =>
      by_cases hv : (x.m != (-1)) = true
      · have st : Vb 52 (wc.setCell ⟨w.heap.size + 1, 1, none⟩ (.int .i64 x.m)) (w.heap.size + 1) [.int .i64 vp1, .int .i64 x.m] := ht.set 1 _
        have s_h7 := h7.other (r := w.heap.size + 1) (by omega) 1 (.int .i64 x.m)
        have s_h8 := h8.other (r := w.heap.size + 1) (by omega) 1 (.int .i64 x.m)
        have s_h9 := h9.other (r := w.heap.size + 1) (by omega) 1 (.int .i64 x.m)
        have s_hz := hz.other (r := w.heap.size + 1) (by omega) 1 (.int .i64 x.m)
        have s_hh := hh.other (r := w.heap.size + 1) (by omega) 1 (.int .i64 x.m)
        have s_B := hB.setCell (p := ⟨w.heap.size + 1, 1, none⟩) (by simp) (.int .i64 x.m)
        have Hr := Kp.mk (And.intro s_h7 (And.intro s_h8 (And.intro s_h9 (And.intro s_hz (And.intro st (And.intro s_hh s_B))))))
        clear st s_h7 s_h8 s_h9 s_hz s_hh s_B h7 h8 h9 hz ht hh hB
        go_wp2_with fail
        go_meet
        case rel => exact ⟨_, Hr.out⟩
      · replace hv : (x.m != (-1)) = false := by simpa using hv
        have Hr := Kp.mk (And.intro h7 (And.intro h8 (And.intro h9 (And.intro hz (And.intro ht (And.intro hh hB))))))
        clear h7 h8 h9 hz ht hh hB
        go_wp2_with fail
        go_meet
        case rel => exact ⟨_, Hr.out⟩
    clear h7 h8 h9 hz ht hh hB c1 t1 hf
    obtain ⟨vq1, h7, h8, h9, hz, ht, hh, hB⟩ := hcut
    go_wp2_with fail
    refine wp_loop_rounds (3 + 1) ?_
    rw [rounds_succ]
    obtain ⟨d0, d1, d2, d3, d4, d5, d6, d7⟩ := hz.c8
    have a0 := hh.cell 0 rfl
    have a1 := hh.cell 1 rfl
    have a2 := hh.cell 2 rfl
    have hf := hh.free
    go_upto_region 21 with fail
    go_still_tail 20, (by kernel_rfl)
    clear d0 d1 d2 d3 d4 d5 d6 d7 a0 a1 a2 hf
    replace h7 : Vb 25 wc.drew g1 [.int .i64 x.v, .int .i64 x.m, .int .u8 x.b0, .int .u8 x.b1, .int .u8 x.b2, .int .u8 x.i0, .int .u8 x.i1, .int .u8 x.i2] := h7
    replace h8 : Vb 25 wc.drew g2 [.int .i64 y.v, .int .i64 y.m, .int .u8 y.b0, .int .u8 y.b1, .int .u8 y.b2, .int .u8 y.i0, .int .u8 y.i1, .int .u8 y.i2] := h8
    replace h9 : Vb 25 wc.drew g3 [.int .i64 m.v, .int .i64 m.m, .int .u8 m.b0, .int .u8 m.b1, .int .u8 m.b2, .int .u8 m.i0, .int .u8 m.i1, .int .u8 m.i2] := h9
    replace hz : Vb 25 wc.drew g [.int .i64 x.v, .int .i64 x.m, .int .u8 x.b0, .int .u8 x.b1, .int .u8 x.b2, .int .u8 x.i0, .int .u8 x.i1, .int .u8 x.i2] := hz
    replace ht : Vb 52 wc.drew (w.heap.size + 1) [.int .i64 vp1, .int .i64 vq1] := ht
    replace hh : Vb 23 wc.drew (w.heap.size + 2) [.int .u8 a, .int .u8 b, .int .u8 c] := hh
    replace hB : Below w.heap.size w wc.drew := hB.drew
    change wpList _ _ _ _ _ wc.drew
    generalize wc.drew = wd00 at *
    have hf := hh.free
    have a0 := hh.cell 0 rfl
    have s_h7 := h7.other (r := w.heap.size + 2) (by omega) 0 (.int .u8 (bits .or .u8 (bits .andNot .u8 a x.b0) (bits .and .u8 x.i0 x.b0)))
    have s_h8 := h8.other (r := w.heap.size + 2) (by omega) 0 (.int .u8 (bits .or .u8 (bits .andNot .u8 a x.b0) (bits .and .u8 x.i0 x.b0)))
    have s_h9 := h9.other (r := w.heap.size + 2) (by omega) 0 (.int .u8 (bits .or .u8 (bits .andNot .u8 a x.b0) (bits .and .u8 x.i0 x.b0)))
    have s_hz := hz.other (r := w.heap.size + 2) (by omega) 0 (.int .u8 (bits .or .u8 (bits .andNot .u8 a x.b0) (bits .and .u8 x.i0 x.b0)))
    have s_ht := ht.other (r := w.heap.size + 2) (by omega) 0 (.int .u8 (bits .or .u8 (bits .andNot .u8 a x.b0) (bits .and .u8 x.i0 x.b0)))
    have s_hh : Vb 23 (wd00.setCell ⟨w.heap.size + 2, 0, none⟩ (.int .u8 (bits .or .u8 (bits .andNot .u8 a x.b0) (bits .and .u8 x.i0 x.b0)))) (w.heap.size + 2) [.int .u8 (bits .or .u8 (bits .andNot .u8 a x.b0) (bits .and .u8 x.i0 x.b0)), .int .u8 b, .int .u8 c] := hh.set 0 _
    have s_B := hB.setCell (p := ⟨w.heap.size + 2, 0, none⟩) (by simp) (.int .u8 (bits .or .u8 (bits .andNot .u8 a x.b0) (bits .and .u8 x.i0 x.b0)))
    clear h7 h8 h9 hz ht hh hB
    go_wp2_with fail
    clear hf a0
    have h7 := s_h7
    have h8 := s_h8
    have h9 := s_h9
    have hz := s_hz
    have ht := s_ht
    have hh := s_hh
    have hB := s_B
    clear s_h7 s_h8 s_h9 s_hz s_ht s_hh s_B
    generalize wd00.setCell ⟨w.heap.size + 2, 0, none⟩ (.int .u8 (bits .or .u8 (bits .andNot .u8 a x.b0) (bits .and .u8 x.i0 x.b0))) = we00 at *
    generalize bits .or .u8 (bits .andNot .u8 a x.b0) (bits .and .u8 x.i0 x.b0) = va1 at *
    rw [rounds_succ]
    obtain ⟨d0, d1, d2, d3, d4, d5, d6, d7⟩ := hz.c8
    have a0 := hh.cell 0 rfl
    have a1 := hh.cell 1 rfl
    have a2 := hh.cell 2 rfl
    have hf := hh.free
    go_upto_region 21 with fail
    go_still_tail 20, (by kernel_rfl)
    clear d0 d1 d2 d3 d4 d5 d6 d7 a0 a1 a2 hf
    replace h7 : Vb 25 we00.drew g1 [.int .i64 x.v, .int .i64 x.m, .int .u8 x.b0, .int .u8 x.b1, .int .u8 x.b2, .int .u8 x.i0, .int .u8 x.i1, .int .u8 x.i2] := h7
    replace h8 : Vb 25 we00.drew g2 [.int .i64 y.v, .int .i64 y.m, .int .u8 y.b0, .int .u8 y.b1, .int .u8 y.b2, .int .u8 y.i0, .int .u8 y.i1, .int .u8 y.i2] := h8
    replace h9 : Vb 25 we00.drew g3 [.int .i64 m.v, .int .i64 m.m, .int .u8 m.b0, .int .u8 m.b1, .int .u8 m.b2, .int .u8 m.i0, .int .u8 m.i1, .int .u8 m.i2] := h9
    replace hz : Vb 25 we00.drew g [.int .i64 x.v, .int .i64 x.m, .int .u8 x.b0, .int .u8 x.b1, .int .u8 x.b2, .int .u8 x.i0, .int .u8 x.i1, .int .u8 x.i2] := hz
    replace ht : Vb 52 we00.drew (w.heap.size + 1) [.int .i64 vp1, .int .i64 vq1] := ht
    replace hh : Vb 23 we00.drew (w.heap.size + 2) [.int .u8 va1, .int .u8 b, .int .u8 c] := hh
    replace hB : Below w.heap.size w we00.drew := hB.drew
    change wpList _ _ _ _ _ we00.drew
    generalize we00.drew = wd01 at *
    have hf := hh.free
    have a1 := hh.cell 1 rfl
    have s_h7 := h7.other (r := w.heap.size + 2) (by omega) 1 (.int .u8 (bits .or .u8 (bits .andNot .u8 b x.b1) (bits .and .u8 x.i1 x.b1)))
    have s_h8 := h8.other (r := w.heap.size + 2) (by omega) 1 (.int .u8 (bits .or .u8 (bits .andNot .u8 b x.b1) (bits .and .u8 x.i1 x.b1)))
    have s_h9 := h9.other (r := w.heap.size + 2) (by omega) 1 (.int .u8 (bits .or .u8 (bits .andNot .u8 b x.b1) (bits .and .u8 x.i1 x.b1)))
    have s_hz := hz.other (r := w.heap.size + 2) (by omega) 1 (.int .u8 (bits .or .u8 (bits .andNot .u8 b x.b1) (bits .and .u8 x.i1 x.b1)))
    have s_ht := ht.other (r := w.heap.size + 2) (by omega) 1 (.int .u8 (bits .or .u8 (bits .andNot .u8 b x.b1) (bits .and .u8 x.i1 x.b1)))
    have s_hh : Vb 23 (wd01.setCell ⟨w.heap.size + 2, 1, none⟩ (.int .u8 (bits .or .u8 (bits .andNot .u8 b x.b1) (bits .and .u8 x.i1 x.b1)))) (w.heap.size + 2) [.int .u8 va1, .int .u8 (bits .or .u8 (bits .andNot .u8 b x.b1) (bits .and .u8 x.i1 x.b1)), .int .u8 c] := hh.set 1 _
    have s_B := hB.setCell (p := ⟨w.heap.size + 2, 1, none⟩) (by simp) (.int .u8 (bits .or .u8 (bits .andNot .u8 b x.b1) (bits .and .u8 x.i1 x.b1)))
    clear h7 h8 h9 hz ht hh hB
    go_wp2_with fail
    clear hf a1
    have h7 := s_h7
    have h8 := s_h8
    have h9 := s_h9
    have hz := s_hz
    have ht := s_ht
    have hh := s_hh
    have hB := s_B
    clear s_h7 s_h8 s_h9 s_hz s_ht s_hh s_B
    generalize wd01.setCell ⟨w.heap.size + 2, 1, none⟩ (.int .u8 (bits .or .u8 (bits .andNot .u8 b x.b1) (bits .and .u8 x.i1 x.b1))) = we01 at *
    generalize bits .or .u8 (bits .andNot .u8 b x.b1) (bits .and .u8 x.i1 x.b1) = vb1 at *
    rw [rounds_succ]
    obtain ⟨d0, d1, d2, d3, d4, d5, d6, d7⟩ := hz.c8
    have a0 := hh.cell 0 rfl
    have a1 := hh.cell 1 rfl
    have a2 := hh.cell 2 rfl
    have hf := hh.free
    go_upto_region 21 with fail
    go_still_tail 20, (by kernel_rfl)
    clear d0 d1 d2 d3 d4 d5 d6 d7 a0 a1 a2 hf
    replace h7 : Vb 25 we01.drew g1 [.int .i64 x.v, .int .i64 x.m, .int .u8 x.b0, .int .u8 x.b1, .int .u8 x.b2, .int .u8 x.i0, .int .u8 x.i1, .int .u8 x.i2] := h7
    replace h8 : Vb 25 we01.drew g2 [.int .i64 y.v, .int .i64 y.m, .int .u8 y.b0, .int .u8 y.b1, .int .u8 y.b2, .int .u8 y.i0, .int .u8 y.i1, .int .u8 y.i2] := h8
    replace h9 : Vb 25 we01.drew g3 [.int .i64 m.v, .int .i64 m.m, .int .u8 m.b0, .int .u8 m.b1, .int .u8 m.b2, .int .u8 m.i0, .int .u8 m.i1, .int .u8 m.i2] := h9
    replace hz : Vb 25 we01.drew g [.int .i64 x.v, .int .i64 x.m, .int .u8 x.b0, .int .u8 x.b1, .int .u8 x.b2, .int .u8 x.i0, .int .u8 x.i1, .int .u8 x.i2] := hz
    replace ht : Vb 52 we01.drew (w.heap.size + 1) [.int .i64 vp1, .int .i64 vq1] := ht
    replace hh : Vb 23 we01.drew (w.heap.size + 2) [.int .u8 va1, .int .u8 vb1, .int .u8 c] := hh
    replace hB : Below w.heap.size w we01.drew := hB.drew
    change wpList _ _ _ _ _ we01.drew
    generalize we01.drew = wd02 at *
    have hf := hh.free
    have a2 := hh.cell 2 rfl
    have s_h7 := h7.other (r := w.heap.size + 2) (by omega) 2 (.int .u8 (bits .or .u8 (bits .andNot .u8 c x.b2) (bits .and .u8 x.i2 x.b2)))
    have s_h8 := h8.other (r := w.heap.size + 2) (by omega) 2 (.int .u8 (bits .or .u8 (bits .andNot .u8 c x.b2) (bits .and .u8 x.i2 x.b2)))
    have s_h9 := h9.other (r := w.heap.size + 2) (by omega) 2 (.int .u8 (bits .or .u8 (bits .andNot .u8 c x.b2) (bits .and .u8 x.i2 x.b2)))
    have s_hz := hz.other (r := w.heap.size + 2) (by omega) 2 (.int .u8 (bits .or .u8 (bits .andNot .u8 c x.b2) (bits .and .u8 x.i2 x.b2)))
    have s_ht := ht.other (r := w.heap.size + 2) (by omega) 2 (.int .u8 (bits .or .u8 (bits .andNot .u8 c x.b2) (bits .and .u8 x.i2 x.b2)))
    have s_hh : Vb 23 (wd02.setCell ⟨w.heap.size + 2, 2, none⟩ (.int .u8 (bits .or .u8 (bits .andNot .u8 c x.b2) (bits .and .u8 x.i2 x.b2)))) (w.heap.size + 2) [.int .u8 va1, .int .u8 vb1, .int .u8 (bits .or .u8 (bits .andNot .u8 c x.b2) (bits .and .u8 x.i2 x.b2))] := hh.set 2 _
    have s_B := hB.setCell (p := ⟨w.heap.size + 2, 2, none⟩) (by simp) (.int .u8 (bits .or .u8 (bits .andNot .u8 c x.b2) (bits .and .u8 x.i2 x.b2)))
    clear h7 h8 h9 hz ht hh hB
    go_wp2_with fail
    clear hf a2
    have h7 := s_h7
    have h8 := s_h8
    have h9 := s_h9
    have hz := s_hz
    have ht := s_ht
    have hh := s_hh
    have hB := s_B
    clear s_h7 s_h8 s_h9 s_hz s_ht s_hh s_B
    generalize wd02.setCell ⟨w.heap.size + 2, 2, none⟩ (.int .u8 (bits .or .u8 (bits .andNot .u8 c x.b2) (bits .and .u8 x.i2 x.b2))) = we02 at *
    generalize bits .or .u8 (bits .andNot .u8 c x.b2) (bits .and .u8 x.i2 x.b2) = vc1 at *
    rw [rounds_succ]
    clear hz m4 m5 m6 m7
    go_wp2_with fail
    rw [rounds_succ]
    go_upto_region 8 with fail
    go_cut [12] from 31 to 105 (fun v wx => v = .bool (fitsR x vp1 vq1 va1 vb1 vc1 && fitsR y vp1 vq1 va1 vb1 vc1) ∧ Vb 25 wx g1 [.int .i64 x.v, .int .i64 x.m, .int .u8 x.b0, .int .u8 x.b1, .int .u8 x.b2, .int .u8 x.i0, .int .u8 x.i1, .int .u8 x.i2] ∧ Vb 25 wx g2 [.int .i64 y.v, .int .i64 y.m, .int .u8 y.b0, .int .u8 y.b1, .int .u8 y.b2, .int .u8 y.i0, .int .u8 y.i1, .int .u8 y.i2] ∧ Vb 25 wx g3 [.int .i64 m.v, .int .i64 m.m, .int .u8 m.b0, .int .u8 m.b1, .int .u8 m.b2, .int .u8 m.i0, .int .u8 m.i1, .int .u8 m.i2] ∧ Vb 52 wx (w.heap.size + 1) [.int .i64 vp1, .int .i64 vq1] ∧ Vb 23 wx (w.heap.size + 2) [.int .u8 va1, .int .u8 vb1, .int .u8 vc1] ∧ Below w.heap.size w wx)
    case first => as_aux_lemma =>
      obtain ⟨d0, d1, d2, d3, d4, d5, d6, d7⟩ := h7.c8
      have t0 := ht.cell 0 rfl
      have t1 := ht.cell 1 rfl
      have a0 := hh.cell 0 rfl
      have a1 := hh.cell 1 rfl
      have a2 := hh.cell 2 rfl
      go_wp2_with fail
      clear d0 d1 d2 d3 d4 d5 d6 d7 t0 t1 a0 a1 a2
      refine (fitsM_any x vp1 vq1 va1 vb1 vc1 _).mono ?_
      rw [fitsM_is]
      rintro e w8 ⟨rfl, hb⟩
      replace h7 := h7.below hb h7.lt
      replace h8 := h8.below hb h8.lt
      replace h9 := h9.below hb h9.lt
      replace ht := ht.below hb ht.lt
      replace hh := hh.below hb hh.lt
      replace hB := hB.trans (hb.mono hB.size)
      clear hb
      generalize fitsR x vp1 vq1 va1 vb1 vc1 = fa at *
      cases fa
      · go_wp2_with fail
        go_meet
        case rel => exact ⟨rfl, h7, h8, h9, ht, hh, hB⟩
      obtain ⟨d0, d1, d2, d3, d4, d5, d6, d7⟩ := h8.c8
      have t0 := ht.cell 0 rfl
      have t1 := ht.cell 1 rfl
      have a0 := hh.cell 0 rfl
      have a1 := hh.cell 1 rfl
      have a2 := hh.cell 2 rfl
      go_wp2_with fail
      clear d0 d1 d2 d3 d4 d5 d6 d7 t0 t1 a0 a1 a2
      refine (fitsM_any y vp1 vq1 va1 vb1 vc1 _).mono ?_
      rw [fitsM_is]
      rintro e w9 ⟨rfl, hb⟩
      replace h7 := h7.below hb h7.lt
      replace h8 := h8.below hb h8.lt
      replace h9 := h9.below hb h9.lt
      replace ht := ht.below hb ht.lt
      replace hh := hh.below hb hh.lt
      replace hB := hB.trans (hb.mono hB.size)
      clear hb
      generalize fitsR y vp1 vq1 va1 vb1 vc1 = fb at *
      go_wp2_with fail
      go_meet
      case rel => exact ⟨rfl, h7, h8, h9, ht, hh, hB⟩
    clear h7 h8 h9 ht hh hB
    obtain ⟨rfl, h7, h8, h9, ht, hh, hB⟩ := hcut
    have hbo := Kp.mk (HE.out vp1 vq1 va1 vb1 vc1)
    generalize (fitsR x vp1 vq1 va1 vb1 vc1 && fitsR y vp1 vq1 va1 vb1 vc1) = bo at *
    go_upto_region 9 with fail
    go_cut [65] from 47 to 105 (fun v wx => v = .bool false ∧ Vb 25 wx g1 [.int .i64 x.v, .int .i64 x.m, .int .u8 x.b0, .int .u8 x.b1, .int .u8 x.b2, .int .u8 x.i0, .int .u8 x.i1, .int .u8 x.i2] ∧ Vb 25 wx g2 [.int .i64 y.v, .int .i64 y.m, .int .u8 y.b0, .int .u8 y.b1, .int .u8 y.b2, .int .u8 y.i0, .int .u8 y.i1, .int .u8 y.i2] ∧ Vb 25 wx g3 [.int .i64 m.v, .int .i64 m.m, .int .u8 m.b0, .int .u8 m.b1, .int .u8 m.b2, .int .u8 m.i0, .int .u8 m.i1, .int .u8 m.i2] ∧ Vb 52 wx (w.heap.size + 1) [.int .i64 vp1, .int .i64 vq1] ∧ Vb 23 wx (w.heap.size + 2) [.int .u8 va1, .int .u8 vb1, .int .u8 vc1] ∧ Below w.heap.size w wx)
    case first => as_aux_lemma =>
      have hbo := hbo.out
      cases k
      · obtain rfl : bo = false := hbo
        clear hbo
        go_wp2_with fail
        go_meet
        case rel => exact ⟨rfl, h7, h8, h9, ht, hh, hB⟩
      replace hbo : bo = fitsR m vp1 vq1 va1 vb1 vc1 := hbo
      have Hbo := Kp.mk hbo
      clear hbo
      cases bo
      · obtain ⟨d0, d1, d2, d3, d4, d5, d6, d7⟩ := h9.c8
        have t0 := ht.cell 0 rfl
        have t1 := ht.cell 1 rfl
        have a0 := hh.cell 0 rfl
        have a1 := hh.cell 1 rfl
        have a2 := hh.cell 2 rfl
        go_wp2_with fail
        clear d0 d1 d2 d3 d4 d5 d6 d7 t0 t1 a0 a1 a2
        refine (fitsM_any m vp1 vq1 va1 vb1 vc1 _).mono ?_
        rw [fitsM_is, ← Hbo.out]
        rintro e w9 ⟨rfl, hb⟩
        replace h7 := h7.below hb h7.lt
        replace h8 := h8.below hb h8.lt
        replace h9 := h9.below hb h9.lt
        replace ht := ht.below hb ht.lt
        replace hh := hh.below hb hh.lt
        replace hB := hB.trans (hb.mono hB.size)
        clear hb
        go_wp2_with fail
        go_meet
        case rel => exact ⟨rfl, h7, h8, h9, ht, hh, hB⟩
      · obtain ⟨d0, d1, d2, d3, d4, d5, d6, d7⟩ := h9.c8
        have t0 := ht.cell 0 rfl
        have t1 := ht.cell 1 rfl
        have a0 := hh.cell 0 rfl
        have a1 := hh.cell 1 rfl
        have a2 := hh.cell 2 rfl
        go_wp2_with fail
        clear d0 d1 d2 d3 d4 d5 d6 d7 t0 t1 a0 a1 a2
        refine (fitsM_any m vp1 vq1 va1 vb1 vc1 _).mono ?_
        rw [fitsM_is, ← Hbo.out]
        rintro e w9 ⟨rfl, hb⟩
        replace h7 := h7.below hb h7.lt
        replace h8 := h8.below hb h8.lt
        replace h9 := h9.below hb h9.lt
        replace ht := ht.below hb ht.lt
        replace hh := hh.below hb hh.lt
        replace hB := hB.trans (hb.mono hB.size)
        clear hb
        go_wp2_with fail
        go_meet
        case rel => exact ⟨rfl, h7, h8, h9, ht, hh, hB⟩
    clear h7 h8 h9 ht hh hB hbo
    obtain ⟨rfl, h7, h8, h9, ht, hh, hB⟩ := hcut
    have m4 := h7.lt
    have m5 := h8.lt
    have m6 := h9.lt
    have m7 := hh.lt
    go_upto_region 12 with (first | refine wpList_load_vb (vs := [.int .i64 x.v, .int .i64 x.m, .int .u8 x.b0, .int .u8 x.b1, .int .u8 x.b2, .int .u8 x.i0, .int .u8 x.i1, .int .u8 x.i2]) rfl (.tmp 7) rfl rfl h7 rfl agg_mask ?_ | (refine wpList_store_new (vs := [.int .i64 x.v, .int .i64 x.m, .int .u8 x.b0, .int .u8 x.b1, .int .u8 x.b2, .int .u8 x.i0, .int .u8 x.i1, .int .u8 x.i2]) rfl (.tmp 13) (.tmp 66) rfl rfl rfl rfl rfl rfl agg_mask rfl ?_; intro wn1 hz hb2 hz2))
    replace h7 := h7.below hb2 h7.lt
    replace h8 := h8.below hb2 h8.lt
    replace h9 := h9.below hb2 h9.lt
    replace ht := ht.below hb2 ht.lt
    replace hh := hh.below hb2 hh.lt
    replace hB := hB.trans (hb2.mono hB.size)
    clear hb2 hz2
    generalize wc.heap.size = g at *
    go_upto_region 14 with (first | refine wpList_load_vb (vs := [.int .i64 y.v, .int .i64 y.m, .int .u8 y.b0, .int .u8 y.b1, .int .u8 y.b2, .int .u8 y.i0, .int .u8 y.i1, .int .u8 y.i2]) rfl (.tmp 8) rfl rfl h8 rfl agg_mask ?_ | (refine wpList_store_vb (vs := [.int .i64 y.v, .int .i64 y.m, .int .u8 y.b0, .int .u8 y.b1, .int .u8 y.b2, .int .u8 y.i0, .int .u8 y.i1, .int .u8 y.i2]) rfl (.tmp 13) (.tmp 69) rfl rfl rfl hz rfl agg_mask rfl ?_; intro wy hz9 hg hq))
    replace h7 := h7.grown hg (by omega)
    replace h8 := h8.grown hg (by omega)
    replace h9 := h9.grown hg (by omega)
    replace ht := ht.grown hg (by omega)
    replace hh := hh.grown hg (by omega)
    replace hB := hB.grown hg (by have := hz.lt; omega) (fun k e => by simp at e; omega)
    clear hg hq hz
    have hz := hz9
    clear hz9
    have c0 := hz.cell 0 rfl
    have hf := ht.free
    have t0 := ht.cell 0 rfl
    go_upto_if 72 with fail
    go_cut [] from 73 to 105 (fun wx => ∃ vp2, Vb 25 wx g1 [.int .i64 x.v, .int .i64 x.m, .int .u8 x.b0, .int .u8 x.b1, .int .u8 x.b2, .int .u8 x.i0, .int .u8 x.i1, .int .u8 x.i2] ∧ Vb 25 wx g2 [.int .i64 y.v, .int .i64 y.m, .int .u8 y.b0, .int .u8 y.b1, .int .u8 y.b2, .int .u8 y.i0, .int .u8 y.i1, .int .u8 y.i2] ∧ Vb 25 wx g3 [.int .i64 m.v, .int .i64 m.m, .int .u8 m.b0, .int .u8 m.b1, .int .u8 m.b2, .int .u8 m.i0, .int .u8 m.i1, .int .u8 m.i2] ∧ Vb 25 wx g [.int .i64 y.v, .int .i64 y.m, .int .u8 y.b0, .int .u8 y.b1, .int .u8 y.b2, .int .u8 y.i0, .int .u8 y.i1, .int .u8 y.i2] ∧ Vb 52 wx (w.heap.size + 1) [.int .i64 vp2, .int .i64 vq1] ∧ Vb 23 wx (w.heap.size + 2) [.int .u8 va1, .int .u8 vb1, .int .u8 vc1] ∧ Below w.heap.size w wx)
    case first => as_aux_lemma =>
      by_cases hv : (y.v != 0) = true
      · have st : Vb 52 (wy.setCell ⟨w.heap.size + 1, 0, none⟩ (.int .i64 y.v)) (w.heap.size + 1) [.int .i64 y.v, .int .i64 vq1] := ht.set 0 _
        have s_h7 := h7.other (r := w.heap.size + 1) (by omega) 0 (.int .i64 y.v)
        have s_h8 := h8.other (r := w.heap.size + 1) (by omega) 0 (.int .i64 y.v)
        have s_h9 := h9.other (r := w.heap.size + 1) (by omega) 0 (.int .i64 y.v)
        have s_hz := hz.other (r := w.heap.size + 1) (by omega) 0 (.int .i64 y.v)
        have s_hh := hh.other (r := w.heap.size + 1) (by omega) 0 (.int .i64 y.v)
        have s_B := hB.setCell (p := ⟨w.heap.size + 1, 0, none⟩) (by simp) (.int .i64 y.v)
        have Hr := Kp.mk (And.intro s_h7 (And.intro s_h8 (And.intro s_h9 (And.intro s_hz (And.intro st (And.intro s_hh s_B))))))
        clear st s_h7 s_h8 s_h9 s_hz s_hh s_B h7 h8 h9 hz ht hh hB
        go_wp2_with fail
        go_meet
        case rel => exact ⟨_, Hr.out⟩
      · replace hv : (y.v != 0) = false := by simpa using hv
        have Hr := Kp.mk (And.intro h7 (And.intro h8 (And.intro h9 (And.intro hz (And.intro ht (And.intro hh hB))))))
        clear h7 h8 h9 hz ht hh hB
        go_wp2_with fail
        go_meet
        case rel => exact ⟨_, Hr.out⟩
    clear h7 h8 h9 hz ht hh hB c0 t0 hf
    obtain ⟨vp2, h7, h8, h9, hz, ht, hh, hB⟩ := hcut
    have c1 := hz.cell 1 rfl
    have hf := ht.free
    have t1 := ht.cell 1 rfl
    go_upto_if 78 with fail
    go_cut [] from 79 to 105 (fun wx => ∃ vq2, Vb 25 wx g1 [.int .i64 x.v, .int .i64 x.m, .int .u8 x.b0, .int .u8 x.b1, .int .u8 x.b2, .int .u8 x.i0, .int .u8 x.i1, .int .u8 x.i2] ∧ Vb 25 wx g2 [.int .i64 y.v, .int .i64 y.m, .int .u8 y.b0, .int .u8 y.b1, .int .u8 y.b2, .int .u8 y.i0, .int .u8 y.i1, .int .u8 y.i2] ∧ Vb 25 wx g3 [.int .i64 m.v, .int .i64 m.m, .int .u8 m.b0, .int .u8 m.b1, .int .u8 m.b2, .int .u8 m.i0, .int .u8 m.i1, .int .u8 m.i2] ∧ Vb 25 wx g [.int .i64 y.v, .int .i64 y.m, .int .u8 y.b0, .int .u8 y.b1, .int .u8 y.b2, .int .u8 y.i0, .int .u8 y.i1, .int .u8 y.i2] ∧ Vb 52 wx (w.heap.size + 1) [.int .i64 vp2, .int .i64 vq2] ∧ Vb 23 wx (w.heap.size + 2) [.int .u8 va1, .int .u8 vb1, .int .u8 vc1] ∧ Below w.heap.size w wx)
    case first => as_aux_lemma =>
      by_cases hv : (y.m != (-1)) = true
      · have st : Vb 52 (wc.setCell ⟨w.heap.size + 1, 1, none⟩ (.int .i64 y.m)) (w.heap.size + 1) [.int .i64 vp2, .int .i64 y.m] := ht.set 1 _
        have s_h7 := h7.other (r := w.heap.size + 1) (by omega) 1 (.int .i64 y.m)
        have s_h8 := h8.other (r := w.heap.size + 1) (by omega) 1 (.int .i64 y.m)
        have s_h9 := h9.other (r := w.heap.size + 1) (by omega) 1 (.int .i64 y.m)
        have s_hz := hz.other (r := w.heap.size + 1) (by omega) 1 (.int .i64 y.m)
        have s_hh := hh.other (r := w.heap.size + 1) (by omega) 1 (.int .i64 y.m)
        have s_B := hB.setCell (p := ⟨w.heap.size + 1, 1, none⟩) (by simp) (.int .i64 y.m)
        have Hr := Kp.mk (And.intro s_h7 (And.intro s_h8 (And.intro s_h9 (And.intro s_hz (And.intro st (And.intro s_hh s_B))))))
        clear st s_h7 s_h8 s_h9 s_hz s_hh s_B h7 h8 h9 hz ht hh hB
        go_wp2_with fail
        go_meet
        case rel => exact ⟨_, Hr.out⟩
      · replace hv : (y.m != (-1)) = false := by simpa using hv
        have Hr := Kp.mk (And.intro h7 (And.intro h8 (And.intro h9 (And.intro hz (And.intro ht (And.intro hh hB))))))
        clear h7 h8 h9 hz ht hh hB
        go_wp2_with fail
        go_meet
        case rel => exact ⟨_, Hr.out⟩
    clear h7 h8 h9 hz ht hh hB c1 t1 hf
    obtain ⟨vq2, h7, h8, h9, hz, ht, hh, hB⟩ := hcut
    go_wp2_with fail
    refine wp_loop_rounds (3 + 1) ?_
    rw [rounds_succ]
    obtain ⟨d0, d1, d2, d3, d4, d5, d6, d7⟩ := hz.c8
    have a0 := hh.cell 0 rfl
    have a1 := hh.cell 1 rfl
    have a2 := hh.cell 2 rfl
    have hf := hh.free
    go_upto_region 21 with fail
    go_still_tail 20, (by kernel_rfl)
    clear d0 d1 d2 d3 d4 d5 d6 d7 a0 a1 a2 hf
    replace h7 : Vb 25 wc.drew g1 [.int .i64 x.v, .int .i64 x.m, .int .u8 x.b0, .int .u8 x.b1, .int .u8 x.b2, .int .u8 x.i0, .int .u8 x.i1, .int .u8 x.i2] := h7
    replace h8 : Vb 25 wc.drew g2 [.int .i64 y.v, .int .i64 y.m, .int .u8 y.b0, .int .u8 y.b1, .int .u8 y.b2, .int .u8 y.i0, .int .u8 y.i1, .int .u8 y.i2] := h8
    replace h9 : Vb 25 wc.drew g3 [.int .i64 m.v, .int .i64 m.m, .int .u8 m.b0, .int .u8 m.b1, .int .u8 m.b2, .int .u8 m.i0, .int .u8 m.i1, .int .u8 m.i2] := h9
    replace hz : Vb 25 wc.drew g [.int .i64 y.v, .int .i64 y.m, .int .u8 y.b0, .int .u8 y.b1, .int .u8 y.b2, .int .u8 y.i0, .int .u8 y.i1, .int .u8 y.i2] := hz
    replace ht : Vb 52 wc.drew (w.heap.size + 1) [.int .i64 vp2, .int .i64 vq2] := ht
    replace hh : Vb 23 wc.drew (w.heap.size + 2) [.int .u8 va1, .int .u8 vb1, .int .u8 vc1] := hh
    replace hB : Below w.heap.size w wc.drew := hB.drew
    change wpList _ _ _ _ _ wc.drew
    generalize wc.drew = wd10 at *
    have hf := hh.free
    have a0 := hh.cell 0 rfl
    have s_h7 := h7.other (r := w.heap.size + 2) (by omega) 0 (.int .u8 (bits .or .u8 (bits .andNot .u8 va1 y.b0) (bits .and .u8 y.i0 y.b0)))
    have s_h8 := h8.other (r := w.heap.size + 2) (by omega) 0 (.int .u8 (bits .or .u8 (bits .andNot .u8 va1 y.b0) (bits .and .u8 y.i0 y.b0)))
    have s_h9 := h9.other (r := w.heap.size + 2) (by omega) 0 (.int .u8 (bits .or .u8 (bits .andNot .u8 va1 y.b0) (bits .and .u8 y.i0 y.b0)))
    have s_hz := hz.other (r := w.heap.size + 2) (by omega) 0 (.int .u8 (bits .or .u8 (bits .andNot .u8 va1 y.b0) (bits .and .u8 y.i0 y.b0)))
    have s_ht := ht.other (r := w.heap.size + 2) (by omega) 0 (.int .u8 (bits .or .u8 (bits .andNot .u8 va1 y.b0) (bits .and .u8 y.i0 y.b0)))
    have s_hh : Vb 23 (wd10.setCell ⟨w.heap.size + 2, 0, none⟩ (.int .u8 (bits .or .u8 (bits .andNot .u8 va1 y.b0) (bits .and .u8 y.i0 y.b0)))) (w.heap.size + 2) [.int .u8 (bits .or .u8 (bits .andNot .u8 va1 y.b0) (bits .and .u8 y.i0 y.b0)), .int .u8 vb1, .int .u8 vc1] := hh.set 0 _
    have s_B := hB.setCell (p := ⟨w.heap.size + 2, 0, none⟩) (by simp) (.int .u8 (bits .or .u8 (bits .andNot .u8 va1 y.b0) (bits .and .u8 y.i0 y.b0)))
    clear h7 h8 h9 hz ht hh hB
    go_wp2_with fail
    clear hf a0
    have h7 := s_h7
    have h8 := s_h8
    have h9 := s_h9
    have hz := s_hz
    have ht := s_ht
    have hh := s_hh
    have hB := s_B
    clear s_h7 s_h8 s_h9 s_hz s_ht s_hh s_B
    generalize wd10.setCell ⟨w.heap.size + 2, 0, none⟩ (.int .u8 (bits .or .u8 (bits .andNot .u8 va1 y.b0) (bits .and .u8 y.i0 y.b0))) = we10 at *
    generalize bits .or .u8 (bits .andNot .u8 va1 y.b0) (bits .and .u8 y.i0 y.b0) = va2 at *
    rw [rounds_succ]
    obtain ⟨d0, d1, d2, d3, d4, d5, d6, d7⟩ := hz.c8
    have a0 := hh.cell 0 rfl
    have a1 := hh.cell 1 rfl
    have a2 := hh.cell 2 rfl
    have hf := hh.free
    go_upto_region 21 with fail
    go_still_tail 20, (by kernel_rfl)
    clear d0 d1 d2 d3 d4 d5 d6 d7 a0 a1 a2 hf
    replace h7 : Vb 25 we10.drew g1 [.int .i64 x.v, .int .i64 x.m, .int .u8 x.b0, .int .u8 x.b1, .int .u8 x.b2, .int .u8 x.i0, .int .u8 x.i1, .int .u8 x.i2] := h7
    replace h8 : Vb 25 we10.drew g2 [.int .i64 y.v, .int .i64 y.m, .int .u8 y.b0, .int .u8 y.b1, .int .u8 y.b2, .int .u8 y.i0, .int .u8 y.i1, .int .u8 y.i2] := h8
    replace h9 : Vb 25 we10.drew g3 [.int .i64 m.v, .int .i64 m.m, .int .u8 m.b0, .int .u8 m.b1, .int .u8 m.b2, .int .u8 m.i0, .int .u8 m.i1, .int .u8 m.i2] := h9
    replace hz : Vb 25 we10.drew g [.int .i64 y.v, .int .i64 y.m, .int .u8 y.b0, .int .u8 y.b1, .int .u8 y.b2, .int .u8 y.i0, .int .u8 y.i1, .int .u8 y.i2] := hz
    replace ht : Vb 52 we10.drew (w.heap.size + 1) [.int .i64 vp2, .int .i64 vq2] := ht
    replace hh : Vb 23 we10.drew (w.heap.size + 2) [.int .u8 va2, .int .u8 vb1, .int .u8 vc1] := hh
    replace hB : Below w.heap.size w we10.drew := hB.drew
    change wpList _ _ _ _ _ we10.drew
    generalize we10.drew = wd11 at *
    have hf := hh.free
    have a1 := hh.cell 1 rfl
    have s_h7 := h7.other (r := w.heap.size + 2) (by omega) 1 (.int .u8 (bits .or .u8 (bits .andNot .u8 vb1 y.b1) (bits .and .u8 y.i1 y.b1)))
    have s_h8 := h8.other (r := w.heap.size + 2) (by omega) 1 (.int .u8 (bits .or .u8 (bits .andNot .u8 vb1 y.b1) (bits .and .u8 y.i1 y.b1)))
    have s_h9 := h9.other (r := w.heap.size + 2) (by omega) 1 (.int .u8 (bits .or .u8 (bits .andNot .u8 vb1 y.b1) (bits .and .u8 y.i1 y.b1)))
    have s_hz := hz.other (r := w.heap.size + 2) (by omega) 1 (.int .u8 (bits .or .u8 (bits .andNot .u8 vb1 y.b1) (bits .and .u8 y.i1 y.b1)))
    have s_ht := ht.other (r := w.heap.size + 2) (by omega) 1 (.int .u8 (bits .or .u8 (bits .andNot .u8 vb1 y.b1) (bits .and .u8 y.i1 y.b1)))
    have s_hh : Vb 23 (wd11.setCell ⟨w.heap.size + 2, 1, none⟩ (.int .u8 (bits .or .u8 (bits .andNot .u8 vb1 y.b1) (bits .and .u8 y.i1 y.b1)))) (w.heap.size + 2) [.int .u8 va2, .int .u8 (bits .or .u8 (bits .andNot .u8 vb1 y.b1) (bits .and .u8 y.i1 y.b1)), .int .u8 vc1] := hh.set 1 _
    have s_B := hB.setCell (p := ⟨w.heap.size + 2, 1, none⟩) (by simp) (.int .u8 (bits .or .u8 (bits .andNot .u8 vb1 y.b1) (bits .and .u8 y.i1 y.b1)))
    clear h7 h8 h9 hz ht hh hB
    go_wp2_with fail
    clear hf a1
    have h7 := s_h7
    have h8 := s_h8
    have h9 := s_h9
    have hz := s_hz
    have ht := s_ht
    have hh := s_hh
    have hB := s_B
    clear s_h7 s_h8 s_h9 s_hz s_ht s_hh s_B
    generalize wd11.setCell ⟨w.heap.size + 2, 1, none⟩ (.int .u8 (bits .or .u8 (bits .andNot .u8 vb1 y.b1) (bits .and .u8 y.i1 y.b1))) = we11 at *
    generalize bits .or .u8 (bits .andNot .u8 vb1 y.b1) (bits .and .u8 y.i1 y.b1) = vb2 at *
    rw [rounds_succ]
    obtain ⟨d0, d1, d2, d3, d4, d5, d6, d7⟩ := hz.c8
    have a0 := hh.cell 0 rfl
    have a1 := hh.cell 1 rfl
    have a2 := hh.cell 2 rfl
    have hf := hh.free
    go_upto_region 21 with fail
    go_still_tail 20, (by kernel_rfl)
    clear d0 d1 d2 d3 d4 d5 d6 d7 a0 a1 a2 hf
    replace h7 : Vb 25 we11.drew g1 [.int .i64 x.v, .int .i64 x.m, .int .u8 x.b0, .int .u8 x.b1, .int .u8 x.b2, .int .u8 x.i0, .int .u8 x.i1, .int .u8 x.i2] := h7
    replace h8 : Vb 25 we11.drew g2 [.int .i64 y.v, .int .i64 y.m, .int .u8 y.b0, .int .u8 y.b1, .int .u8 y.b2, .int .u8 y.i0, .int .u8 y.i1, .int .u8 y.i2] := h8
    replace h9 : Vb 25 we11.drew g3 [.int .i64 m.v, .int .i64 m.m, .int .u8 m.b0, .int .u8 m.b1, .int .u8 m.b2, .int .u8 m.i0, .int .u8 m.i1, .int .u8 m.i2] := h9
    replace hz : Vb 25 we11.drew g [.int .i64 y.v, .int .i64 y.m, .int .u8 y.b0, .int .u8 y.b1, .int .u8 y.b2, .int .u8 y.i0, .int .u8 y.i1, .int .u8 y.i2] := hz
    replace ht : Vb 52 we11.drew (w.heap.size + 1) [.int .i64 vp2, .int .i64 vq2] := ht
    replace hh : Vb 23 we11.drew (w.heap.size + 2) [.int .u8 va2, .int .u8 vb2, .int .u8 vc1] := hh
    replace hB : Below w.heap.size w we11.drew := hB.drew
    change wpList _ _ _ _ _ we11.drew
    generalize we11.drew = wd12 at *
    have hf := hh.free
    have a2 := hh.cell 2 rfl
    have s_h7 := h7.other (r := w.heap.size + 2) (by omega) 2 (.int .u8 (bits .or .u8 (bits .andNot .u8 vc1 y.b2) (bits .and .u8 y.i2 y.b2)))
    have s_h8 := h8.other (r := w.heap.size + 2) (by omega) 2 (.int .u8 (bits .or .u8 (bits .andNot .u8 vc1 y.b2) (bits .and .u8 y.i2 y.b2)))
    have s_h9 := h9.other (r := w.heap.size + 2) (by omega) 2 (.int .u8 (bits .or .u8 (bits .andNot .u8 vc1 y.b2) (bits .and .u8 y.i2 y.b2)))
    have s_hz := hz.other (r := w.heap.size + 2) (by omega) 2 (.int .u8 (bits .or .u8 (bits .andNot .u8 vc1 y.b2) (bits .and .u8 y.i2 y.b2)))
    have s_ht := ht.other (r := w.heap.size + 2) (by omega) 2 (.int .u8 (bits .or .u8 (bits .andNot .u8 vc1 y.b2) (bits .and .u8 y.i2 y.b2)))
    have s_hh : Vb 23 (wd12.setCell ⟨w.heap.size + 2, 2, none⟩ (.int .u8 (bits .or .u8 (bits .andNot .u8 vc1 y.b2) (bits .and .u8 y.i2 y.b2)))) (w.heap.size + 2) [.int .u8 va2, .int .u8 vb2, .int .u8 (bits .or .u8 (bits .andNot .u8 vc1 y.b2) (bits .and .u8 y.i2 y.b2))] := hh.set 2 _
    have s_B := hB.setCell (p := ⟨w.heap.size + 2, 2, none⟩) (by simp) (.int .u8 (bits .or .u8 (bits .andNot .u8 vc1 y.b2) (bits .and .u8 y.i2 y.b2)))
    clear h7 h8 h9 hz ht hh hB
    go_wp2_with fail
    clear hf a2
    have h7 := s_h7
    have h8 := s_h8
    have h9 := s_h9
    have hz := s_hz
    have ht := s_ht
    have hh := s_hh
    have hB := s_B
    clear s_h7 s_h8 s_h9 s_hz s_ht s_hh s_B
    generalize wd12.setCell ⟨w.heap.size + 2, 2, none⟩ (.int .u8 (bits .or .u8 (bits .andNot .u8 vc1 y.b2) (bits .and .u8 y.i2 y.b2))) = we12 at *
    generalize bits .or .u8 (bits .andNot .u8 vc1 y.b2) (bits .and .u8 y.i2 y.b2) = vc2 at *
    rw [rounds_succ]
    clear hz m4 m5 m6 m7
    go_wp2_with fail
    rw [rounds_succ]
    go_upto_region 8 with fail
    go_cut [12] from 31 to 105 (fun v wx => v = .bool (fitsR x vp2 vq2 va2 vb2 vc2 && fitsR y vp2 vq2 va2 vb2 vc2) ∧ Vb 25 wx g1 [.int .i64 x.v, .int .i64 x.m, .int .u8 x.b0, .int .u8 x.b1, .int .u8 x.b2, .int .u8 x.i0, .int .u8 x.i1, .int .u8 x.i2] ∧ Vb 25 wx g2 [.int .i64 y.v, .int .i64 y.m, .int .u8 y.b0, .int .u8 y.b1, .int .u8 y.b2, .int .u8 y.i0, .int .u8 y.i1, .int .u8 y.i2] ∧ Vb 25 wx g3 [.int .i64 m.v, .int .i64 m.m, .int .u8 m.b0, .int .u8 m.b1, .int .u8 m.b2, .int .u8 m.i0, .int .u8 m.i1, .int .u8 m.i2] ∧ Vb 52 wx (w.heap.size + 1) [.int .i64 vp2, .int .i64 vq2] ∧ Vb 23 wx (w.heap.size + 2) [.int .u8 va2, .int .u8 vb2, .int .u8 vc2] ∧ Below w.heap.size w wx)
    case first => as_aux_lemma =>
      obtain ⟨d0, d1, d2, d3, d4, d5, d6, d7⟩ := h7.c8
      have t0 := ht.cell 0 rfl
      have t1 := ht.cell 1 rfl
      have a0 := hh.cell 0 rfl
      have a1 := hh.cell 1 rfl
      have a2 := hh.cell 2 rfl
      go_wp2_with fail
      clear d0 d1 d2 d3 d4 d5 d6 d7 t0 t1 a0 a1 a2
      refine (fitsM_any x vp2 vq2 va2 vb2 vc2 _).mono ?_
      rw [fitsM_is]
      rintro e w8 ⟨rfl, hb⟩
      replace h7 := h7.below hb h7.lt
      replace h8 := h8.below hb h8.lt
      replace h9 := h9.below hb h9.lt
      replace ht := ht.below hb ht.lt
      replace hh := hh.below hb hh.lt
      replace hB := hB.trans (hb.mono hB.size)
      clear hb
      generalize fitsR x vp2 vq2 va2 vb2 vc2 = fa at *
      cases fa
      · go_wp2_with fail
        go_meet
        case rel => exact ⟨rfl, h7, h8, h9, ht, hh, hB⟩
      obtain ⟨d0, d1, d2, d3, d4, d5, d6, d7⟩ := h8.c8
      have t0 := ht.cell 0 rfl
      have t1 := ht.cell 1 rfl
      have a0 := hh.cell 0 rfl
      have a1 := hh.cell 1 rfl
      have a2 := hh.cell 2 rfl
      go_wp2_with fail
      clear d0 d1 d2 d3 d4 d5 d6 d7 t0 t1 a0 a1 a2
      refine (fitsM_any y vp2 vq2 va2 vb2 vc2 _).mono ?_
      rw [fitsM_is]
      rintro e w9 ⟨rfl, hb⟩
      replace h7 := h7.below hb h7.lt
      replace h8 := h8.below hb h8.lt
      replace h9 := h9.below hb h9.lt
      replace ht := ht.below hb ht.lt
      replace hh := hh.below hb hh.lt
      replace hB := hB.trans (hb.mono hB.size)
      clear hb
      generalize fitsR y vp2 vq2 va2 vb2 vc2 = fb at *
      go_wp2_with fail
      go_meet
      case rel => exact ⟨rfl, h7, h8, h9, ht, hh, hB⟩
    clear h7 h8 h9 ht hh hB
    obtain ⟨rfl, h7, h8, h9, ht, hh, hB⟩ := hcut
    have hbo := Kp.mk (HE.out vp2 vq2 va2 vb2 vc2)
    generalize (fitsR x vp2 vq2 va2 vb2 vc2 && fitsR y vp2 vq2 va2 vb2 vc2) = bo at *
    go_upto_region 9 with fail
    go_cut [65] from 47 to 105 (fun v wx => v = .bool false ∧ Vb 25 wx g1 [.int .i64 x.v, .int .i64 x.m, .int .u8 x.b0, .int .u8 x.b1, .int .u8 x.b2, .int .u8 x.i0, .int .u8 x.i1, .int .u8 x.i2] ∧ Vb 25 wx g2 [.int .i64 y.v, .int .i64 y.m, .int .u8 y.b0, .int .u8 y.b1, .int .u8 y.b2, .int .u8 y.i0, .int .u8 y.i1, .int .u8 y.i2] ∧ Vb 25 wx g3 [.int .i64 m.v, .int .i64 m.m, .int .u8 m.b0, .int .u8 m.b1, .int .u8 m.b2, .int .u8 m.i0, .int .u8 m.i1, .int .u8 m.i2] ∧ Vb 52 wx (w.heap.size + 1) [.int .i64 vp2, .int .i64 vq2] ∧ Vb 23 wx (w.heap.size + 2) [.int .u8 va2, .int .u8 vb2, .int .u8 vc2] ∧ Below w.heap.size w wx)
    case first => as_aux_lemma =>
      have hbo := hbo.out
      cases k
      · obtain rfl : bo = false := hbo
        clear hbo
        go_wp2_with fail
        go_meet
        case rel => exact ⟨rfl, h7, h8, h9, ht, hh, hB⟩
      replace hbo : bo = fitsR m vp2 vq2 va2 vb2 vc2 := hbo
      have Hbo := Kp.mk hbo
      clear hbo
      cases bo
      · obtain ⟨d0, d1, d2, d3, d4, d5, d6, d7⟩ := h9.c8
        have t0 := ht.cell 0 rfl
        have t1 := ht.cell 1 rfl
        have a0 := hh.cell 0 rfl
        have a1 := hh.cell 1 rfl
        have a2 := hh.cell 2 rfl
        go_wp2_with fail
        clear d0 d1 d2 d3 d4 d5 d6 d7 t0 t1 a0 a1 a2
        refine (fitsM_any m vp2 vq2 va2 vb2 vc2 _).mono ?_
        rw [fitsM_is, ← Hbo.out]
        rintro e w9 ⟨rfl, hb⟩
        replace h7 := h7.below hb h7.lt
        replace h8 := h8.below hb h8.lt
        replace h9 := h9.below hb h9.lt
        replace ht := ht.below hb ht.lt
        replace hh := hh.below hb hh.lt
        replace hB := hB.trans (hb.mono hB.size)
        clear hb
        go_wp2_with fail
        go_meet
        case rel => exact ⟨rfl, h7, h8, h9, ht, hh, hB⟩
      · obtain ⟨d0, d1, d2, d3, d4, d5, d6, d7⟩ := h9.c8
        have t0 := ht.cell 0 rfl
        have t1 := ht.cell 1 rfl
        have a0 := hh.cell 0 rfl
        have a1 := hh.cell 1 rfl
        have a2 := hh.cell 2 rfl
        go_wp2_with fail
        clear d0 d1 d2 d3 d4 d5 d6 d7 t0 t1 a0 a1 a2
        refine (fitsM_any m vp2 vq2 va2 vb2 vc2 _).mono ?_
        rw [fitsM_is, ← Hbo.out]
        rintro e w9 ⟨rfl, hb⟩
        replace h7 := h7.below hb h7.lt
        replace h8 := h8.below hb h8.lt
        replace h9 := h9.below hb h9.lt
        replace ht := ht.below hb ht.lt
        replace hh := hh.below hb hh.lt
        replace hB := hB.trans (hb.mono hB.size)
        clear hb
        go_wp2_with fail
        go_meet
        case rel => exact ⟨rfl, h7, h8, h9, ht, hh, hB⟩
    clear h7 h8 h9 ht hh hB hbo
    obtain ⟨rfl, h7, h8, h9, ht, hh, hB⟩ := hcut
    have m4 := h7.lt
    have m5 := h8.lt
    have m6 := h9.lt
    have m7 := hh.lt
    go_upto_region 12 with (first | refine wpList_load_vb (vs := [.int .i64 x.v, .int .i64 x.m, .int .u8 x.b0, .int .u8 x.b1, .int .u8 x.b2, .int .u8 x.i0, .int .u8 x.i1, .int .u8 x.i2]) rfl (.tmp 7) rfl rfl h7 rfl agg_mask ?_ | (refine wpList_store_new (vs := [.int .i64 x.v, .int .i64 x.m, .int .u8 x.b0, .int .u8 x.b1, .int .u8 x.b2, .int .u8 x.i0, .int .u8 x.i1, .int .u8 x.i2]) rfl (.tmp 13) (.tmp 66) rfl rfl rfl rfl rfl rfl agg_mask rfl ?_; intro wn2 hz hb2 hz2))
    replace h7 := h7.below hb2 h7.lt
    replace h8 := h8.below hb2 h8.lt
    replace h9 := h9.below hb2 h9.lt
    replace ht := ht.below hb2 ht.lt
    replace hh := hh.below hb2 hh.lt
    replace hB := hB.trans (hb2.mono hB.size)
    clear hb2 hz2
    generalize wc.heap.size = g at *
    go_upto_region 14 with fail
    have c0 := hz.cell 0 rfl
    have hf := ht.free
    have t0 := ht.cell 0 rfl
    go_upto_if 72 with fail
    go_cut [] from 73 to 105 (fun wx => ∃ vp3, Vb 25 wx g1 [.int .i64 x.v, .int .i64 x.m, .int .u8 x.b0, .int .u8 x.b1, .int .u8 x.b2, .int .u8 x.i0, .int .u8 x.i1, .int .u8 x.i2] ∧ Vb 25 wx g2 [.int .i64 y.v, .int .i64 y.m, .int .u8 y.b0, .int .u8 y.b1, .int .u8 y.b2, .int .u8 y.i0, .int .u8 y.i1, .int .u8 y.i2] ∧ Vb 25 wx g3 [.int .i64 m.v, .int .i64 m.m, .int .u8 m.b0, .int .u8 m.b1, .int .u8 m.b2, .int .u8 m.i0, .int .u8 m.i1, .int .u8 m.i2] ∧ Vb 25 wx g [.int .i64 x.v, .int .i64 x.m, .int .u8 x.b0, .int .u8 x.b1, .int .u8 x.b2, .int .u8 x.i0, .int .u8 x.i1, .int .u8 x.i2] ∧ Vb 52 wx (w.heap.size + 1) [.int .i64 vp3, .int .i64 vq2] ∧ Vb 23 wx (w.heap.size + 2) [.int .u8 va2, .int .u8 vb2, .int .u8 vc2] ∧ Below w.heap.size w wx)
    case first => as_aux_lemma =>
      by_cases hv : (x.v != 0) = true
      · have st : Vb 52 (wn2.setCell ⟨w.heap.size + 1, 0, none⟩ (.int .i64 x.v)) (w.heap.size + 1) [.int .i64 x.v, .int .i64 vq2] := ht.set 0 _
        have s_h7 := h7.other (r := w.heap.size + 1) (by omega) 0 (.int .i64 x.v)
        have s_h8 := h8.other (r := w.heap.size + 1) (by omega) 0 (.int .i64 x.v)
        have s_h9 := h9.other (r := w.heap.size + 1) (by omega) 0 (.int .i64 x.v)
        have s_hz := hz.other (r := w.heap.size + 1) (by omega) 0 (.int .i64 x.v)
        have s_hh := hh.other (r := w.heap.size + 1) (by omega) 0 (.int .i64 x.v)
        have s_B := hB.setCell (p := ⟨w.heap.size + 1, 0, none⟩) (by simp) (.int .i64 x.v)
        have Hr := Kp.mk (And.intro s_h7 (And.intro s_h8 (And.intro s_h9 (And.intro s_hz (And.intro st (And.intro s_hh s_B))))))
        clear st s_h7 s_h8 s_h9 s_hz s_hh s_B h7 h8 h9 hz ht hh hB
        go_wp2_with fail
        go_meet
        case rel => exact ⟨_, Hr.out⟩
      · replace hv : (x.v != 0) = false := by simpa using hv
        have Hr := Kp.mk (And.intro h7 (And.intro h8 (And.intro h9 (And.intro hz (And.intro ht (And.intro hh hB))))))
        clear h7 h8 h9 hz ht hh hB
        go_wp2_with fail
        go_meet
        case rel => exact ⟨_, Hr.out⟩
    clear h7 h8 h9 hz ht hh hB c0 t0 hf
    obtain ⟨vp3, h7, h8, h9, hz, ht, hh, hB⟩ := hcut
    have c1 := hz.cell 1 rfl
    have hf := ht.free
    have t1 := ht.cell 1 rfl
    go_upto_if 78 with fail
    go_cut [] from 79 to 105 (fun wx => ∃ vq3, Vb 25 wx g1 [.int .i64 x.v, .int .i64 x.m, .int .u8 x.b0, .int .u8 x.b1, .int .u8 x.b2, .int .u8 x.i0, .int .u8 x.i1, .int .u8 x.i2] ∧ Vb 25 wx g2 [.int .i64 y.v, .int .i64 y.m, .int .u8 y.b0, .int .u8 y.b1, .int .u8 y.b2, .int .u8 y.i0, .int .u8 y.i1, .int .u8 y.i2] ∧ Vb 25 wx g3 [.int .i64 m.v, .int .i64 m.m, .int .u8 m.b0, .int .u8 m.b1, .int .u8 m.b2, .int .u8 m.i0, .int .u8 m.i1, .int .u8 m.i2] ∧ Vb 25 wx g [.int .i64 x.v, .int .i64 x.m, .int .u8 x.b0, .int .u8 x.b1, .int .u8 x.b2, .int .u8 x.i0, .int .u8 x.i1, .int .u8 x.i2] ∧ Vb 52 wx (w.heap.size + 1) [.int .i64 vp3, .int .i64 vq3] ∧ Vb 23 wx (w.heap.size + 2) [.int .u8 va2, .int .u8 vb2, .int .u8 vc2] ∧ Below w.heap.size w wx)
    case first => as_aux_lemma =>
      by_cases hv : (x.m != (-1)) = true
      · have st : Vb 52 (wc.setCell ⟨w.heap.size + 1, 1, none⟩ (.int .i64 x.m)) (w.heap.size + 1) [.int .i64 vp3, .int .i64 x.m] := ht.set 1 _
        have s_h7 := h7.other (r := w.heap.size + 1) (by omega) 1 (.int .i64 x.m)
        have s_h8 := h8.other (r := w.heap.size + 1) (by omega) 1 (.int .i64 x.m)
        have s_h9 := h9.other (r := w.heap.size + 1) (by omega) 1 (.int .i64 x.m)
        have s_hz := hz.other (r := w.heap.size + 1) (by omega) 1 (.int .i64 x.m)
        have s_hh := hh.other (r := w.heap.size + 1) (by omega) 1 (.int .i64 x.m)
        have s_B := hB.setCell (p := ⟨w.heap.size + 1, 1, none⟩) (by simp) (.int .i64 x.m)
        have Hr := Kp.mk (And.intro s_h7 (And.intro s_h8 (And.intro s_h9 (And.intro s_hz (And.intro st (And.intro s_hh s_B))))))
        clear st s_h7 s_h8 s_h9 s_hz s_hh s_B h7 h8 h9 hz ht hh hB
        go_wp2_with fail
        go_meet
        case rel => exact ⟨_, Hr.out⟩
      · replace hv : (x.m != (-1)) = false := by simpa using hv
        have Hr := Kp.mk (And.intro h7 (And.intro h8 (And.intro h9 (And.intro hz (And.intro ht (And.intro hh hB))))))
        clear h7 h8 h9 hz ht hh hB
        go_wp2_with fail
        go_meet
        case rel => exact ⟨_, Hr.out⟩
    clear h7 h8 h9 hz ht hh hB c1 t1 hf
    obtain ⟨vq3, h7, h8, h9, hz, ht, hh, hB⟩ := hcut
    go_wp2_with fail
    refine wp_loop_rounds (3 + 1) ?_
    rw [rounds_succ]
    obtain ⟨d0, d1, d2, d3, d4, d5, d6, d7⟩ := hz.c8
    have a0 := hh.cell 0 rfl
    have a1 := hh.cell 1 rfl
    have a2 := hh.cell 2 rfl
    have hf := hh.free
    go_upto_region 21 with fail
    go_still_tail 20, (by kernel_rfl)
    clear d0 d1 d2 d3 d4 d5 d6 d7 a0 a1 a2 hf
    replace h7 : Vb 25 wc.drew g1 [.int .i64 x.v, .int .i64 x.m, .int .u8 x.b0, .int .u8 x.b1, .int .u8 x.b2, .int .u8 x.i0, .int .u8 x.i1, .int .u8 x.i2] := h7
    replace h8 : Vb 25 wc.drew g2 [.int .i64 y.v, .int .i64 y.m, .int .u8 y.b0, .int .u8 y.b1, .int .u8 y.b2, .int .u8 y.i0, .int .u8 y.i1, .int .u8 y.i2] := h8
    replace h9 : Vb 25 wc.drew g3 [.int .i64 m.v, .int .i64 m.m, .int .u8 m.b0, .int .u8 m.b1, .int .u8 m.b2, .int .u8 m.i0, .int .u8 m.i1, .int .u8 m.i2] := h9
    replace hz : Vb 25 wc.drew g [.int .i64 x.v, .int .i64 x.m, .int .u8 x.b0, .int .u8 x.b1, .int .u8 x.b2, .int .u8 x.i0, .int .u8 x.i1, .int .u8 x.i2] := hz
    replace ht : Vb 52 wc.drew (w.heap.size + 1) [.int .i64 vp3, .int .i64 vq3] := ht
    replace hh : Vb 23 wc.drew (w.heap.size + 2) [.int .u8 va2, .int .u8 vb2, .int .u8 vc2] := hh
    replace hB : Below w.heap.size w wc.drew := hB.drew
    change wpList _ _ _ _ _ wc.drew
    generalize wc.drew = wd20 at *
    have hf := hh.free
    have a0 := hh.cell 0 rfl
    have s_h7 := h7.other (r := w.heap.size + 2) (by omega) 0 (.int .u8 (bits .or .u8 (bits .andNot .u8 va2 x.b0) (bits .and .u8 x.i0 x.b0)))
    have s_h8 := h8.other (r := w.heap.size + 2) (by omega) 0 (.int .u8 (bits .or .u8 (bits .andNot .u8 va2 x.b0) (bits .and .u8 x.i0 x.b0)))
    have s_h9 := h9.other (r := w.heap.size + 2) (by omega) 0 (.int .u8 (bits .or .u8 (bits .andNot .u8 va2 x.b0) (bits .and .u8 x.i0 x.b0)))
    have s_hz := hz.other (r := w.heap.size + 2) (by omega) 0 (.int .u8 (bits .or .u8 (bits .andNot .u8 va2 x.b0) (bits .and .u8 x.i0 x.b0)))
    have s_ht := ht.other (r := w.heap.size + 2) (by omega) 0 (.int .u8 (bits .or .u8 (bits .andNot .u8 va2 x.b0) (bits .and .u8 x.i0 x.b0)))
    have s_hh : Vb 23 (wd20.setCell ⟨w.heap.size + 2, 0, none⟩ (.int .u8 (bits .or .u8 (bits .andNot .u8 va2 x.b0) (bits .and .u8 x.i0 x.b0)))) (w.heap.size + 2) [.int .u8 (bits .or .u8 (bits .andNot .u8 va2 x.b0) (bits .and .u8 x.i0 x.b0)), .int .u8 vb2, .int .u8 vc2] := hh.set 0 _
    have s_B := hB.setCell (p := ⟨w.heap.size + 2, 0, none⟩) (by simp) (.int .u8 (bits .or .u8 (bits .andNot .u8 va2 x.b0) (bits .and .u8 x.i0 x.b0)))
    clear h7 h8 h9 hz ht hh hB
    go_wp2_with fail
    clear hf a0
    have h7 := s_h7
    have h8 := s_h8
    have h9 := s_h9
    have hz := s_hz
    have ht := s_ht
    have hh := s_hh
    have hB := s_B
    clear s_h7 s_h8 s_h9 s_hz s_ht s_hh s_B
    generalize wd20.setCell ⟨w.heap.size + 2, 0, none⟩ (.int .u8 (bits .or .u8 (bits .andNot .u8 va2 x.b0) (bits .and .u8 x.i0 x.b0))) = we20 at *
    generalize bits .or .u8 (bits .andNot .u8 va2 x.b0) (bits .and .u8 x.i0 x.b0) = va3 at *
    rw [rounds_succ]
    obtain ⟨d0, d1, d2, d3, d4, d5, d6, d7⟩ := hz.c8
    have a0 := hh.cell 0 rfl
    have a1 := hh.cell 1 rfl
    have a2 := hh.cell 2 rfl
    have hf := hh.free
    go_upto_region 21 with fail
    go_still_tail 20, (by kernel_rfl)
    clear d0 d1 d2 d3 d4 d5 d6 d7 a0 a1 a2 hf
    replace h7 : Vb 25 we20.drew g1 [.int .i64 x.v, .int .i64 x.m, .int .u8 x.b0, .int .u8 x.b1, .int .u8 x.b2, .int .u8 x.i0, .int .u8 x.i1, .int .u8 x.i2] := h7
    replace h8 : Vb 25 we20.drew g2 [.int .i64 y.v, .int .i64 y.m, .int .u8 y.b0, .int .u8 y.b1, .int .u8 y.b2, .int .u8 y.i0, .int .u8 y.i1, .int .u8 y.i2] := h8
    replace h9 : Vb 25 we20.drew g3 [.int .i64 m.v, .int .i64 m.m, .int .u8 m.b0, .int .u8 m.b1, .int .u8 m.b2, .int .u8 m.i0, .int .u8 m.i1, .int .u8 m.i2] := h9
    replace hz : Vb 25 we20.drew g [.int .i64 x.v, .int .i64 x.m, .int .u8 x.b0, .int .u8 x.b1, .int .u8 x.b2, .int .u8 x.i0, .int .u8 x.i1, .int .u8 x.i2] := hz
    replace ht : Vb 52 we20.drew (w.heap.size + 1) [.int .i64 vp3, .int .i64 vq3] := ht
    replace hh : Vb 23 we20.drew (w.heap.size + 2) [.int .u8 va3, .int .u8 vb2, .int .u8 vc2] := hh
    replace hB : Below w.heap.size w we20.drew := hB.drew
    change wpList _ _ _ _ _ we20.drew
    generalize we20.drew = wd21 at *
    have hf := hh.free
    have a1 := hh.cell 1 rfl
    have s_h7 := h7.other (r := w.heap.size + 2) (by omega) 1 (.int .u8 (bits .or .u8 (bits .andNot .u8 vb2 x.b1) (bits .and .u8 x.i1 x.b1)))
    have s_h8 := h8.other (r := w.heap.size + 2) (by omega) 1 (.int .u8 (bits .or .u8 (bits .andNot .u8 vb2 x.b1) (bits .and .u8 x.i1 x.b1)))
    have s_h9 := h9.other (r := w.heap.size + 2) (by omega) 1 (.int .u8 (bits .or .u8 (bits .andNot .u8 vb2 x.b1) (bits .and .u8 x.i1 x.b1)))
    have s_hz := hz.other (r := w.heap.size + 2) (by omega) 1 (.int .u8 (bits .or .u8 (bits .andNot .u8 vb2 x.b1) (bits .and .u8 x.i1 x.b1)))
    have s_ht := ht.other (r := w.heap.size + 2) (by omega) 1 (.int .u8 (bits .or .u8 (bits .andNot .u8 vb2 x.b1) (bits .and .u8 x.i1 x.b1)))
    have s_hh : Vb 23 (wd21.setCell ⟨w.heap.size + 2, 1, none⟩ (.int .u8 (bits .or .u8 (bits .andNot .u8 vb2 x.b1) (bits .and .u8 x.i1 x.b1)))) (w.heap.size + 2) [.int .u8 va3, .int .u8 (bits .or .u8 (bits .andNot .u8 vb2 x.b1) (bits .and .u8 x.i1 x.b1)), .int .u8 vc2] := hh.set 1 _
    have s_B := hB.setCell (p := ⟨w.heap.size + 2, 1, none⟩) (by simp) (.int .u8 (bits .or .u8 (bits .andNot .u8 vb2 x.b1) (bits .and .u8 x.i1 x.b1)))
    clear h7 h8 h9 hz ht hh hB
    go_wp2_with fail
    clear hf a1
    have h7 := s_h7
    have h8 := s_h8
    have h9 := s_h9
    have hz := s_hz
    have ht := s_ht
    have hh := s_hh
    have hB := s_B
    clear s_h7 s_h8 s_h9 s_hz s_ht s_hh s_B
    generalize wd21.setCell ⟨w.heap.size + 2, 1, none⟩ (.int .u8 (bits .or .u8 (bits .andNot .u8 vb2 x.b1) (bits .and .u8 x.i1 x.b1))) = we21 at *
    generalize bits .or .u8 (bits .andNot .u8 vb2 x.b1) (bits .and .u8 x.i1 x.b1) = vb3 at *
    rw [rounds_succ]
    obtain ⟨d0, d1, d2, d3, d4, d5, d6, d7⟩ := hz.c8
    have a0 := hh.cell 0 rfl
    have a1 := hh.cell 1 rfl
    have a2 := hh.cell 2 rfl
    have hf := hh.free
    go_upto_region 21 with fail
    go_still_tail 20, (by kernel_rfl)
    clear d0 d1 d2 d3 d4 d5 d6 d7 a0 a1 a2 hf
    replace h7 : Vb 25 we21.drew g1 [.int .i64 x.v, .int .i64 x.m, .int .u8 x.b0, .int .u8 x.b1, .int .u8 x.b2, .int .u8 x.i0, .int .u8 x.i1, .int .u8 x.i2] := h7
    replace h8 : Vb 25 we21.drew g2 [.int .i64 y.v, .int .i64 y.m, .int .u8 y.b0, .int .u8 y.b1, .int .u8 y.b2, .int .u8 y.i0, .int .u8 y.i1, .int .u8 y.i2] := h8
    replace h9 : Vb 25 we21.drew g3 [.int .i64 m.v, .int .i64 m.m, .int .u8 m.b0, .int .u8 m.b1, .int .u8 m.b2, .int .u8 m.i0, .int .u8 m.i1, .int .u8 m.i2] := h9
    replace hz : Vb 25 we21.drew g [.int .i64 x.v, .int .i64 x.m, .int .u8 x.b0, .int .u8 x.b1, .int .u8 x.b2, .int .u8 x.i0, .int .u8 x.i1, .int .u8 x.i2] := hz
    replace ht : Vb 52 we21.drew (w.heap.size + 1) [.int .i64 vp3, .int .i64 vq3] := ht
    replace hh : Vb 23 we21.drew (w.heap.size + 2) [.int .u8 va3, .int .u8 vb3, .int .u8 vc2] := hh
    replace hB : Below w.heap.size w we21.drew := hB.drew
    change wpList _ _ _ _ _ we21.drew
    generalize we21.drew = wd22 at *
    have hf := hh.free
    have a2 := hh.cell 2 rfl
    have s_h7 := h7.other (r := w.heap.size + 2) (by omega) 2 (.int .u8 (bits .or .u8 (bits .andNot .u8 vc2 x.b2) (bits .and .u8 x.i2 x.b2)))
    have s_h8 := h8.other (r := w.heap.size + 2) (by omega) 2 (.int .u8 (bits .or .u8 (bits .andNot .u8 vc2 x.b2) (bits .and .u8 x.i2 x.b2)))
    have s_h9 := h9.other (r := w.heap.size + 2) (by omega) 2 (.int .u8 (bits .or .u8 (bits .andNot .u8 vc2 x.b2) (bits .and .u8 x.i2 x.b2)))
    have s_hz := hz.other (r := w.heap.size + 2) (by omega) 2 (.int .u8 (bits .or .u8 (bits .andNot .u8 vc2 x.b2) (bits .and .u8 x.i2 x.b2)))
    have s_ht := ht.other (r := w.heap.size + 2) (by omega) 2 (.int .u8 (bits .or .u8 (bits .andNot .u8 vc2 x.b2) (bits .and .u8 x.i2 x.b2)))
    have s_hh : Vb 23 (wd22.setCell ⟨w.heap.size + 2, 2, none⟩ (.int .u8 (bits .or .u8 (bits .andNot .u8 vc2 x.b2) (bits .and .u8 x.i2 x.b2)))) (w.heap.size + 2) [.int .u8 va3, .int .u8 vb3, .int .u8 (bits .or .u8 (bits .andNot .u8 vc2 x.b2) (bits .and .u8 x.i2 x.b2))] := hh.set 2 _
    have s_B := hB.setCell (p := ⟨w.heap.size + 2, 2, none⟩) (by simp) (.int .u8 (bits .or .u8 (bits .andNot .u8 vc2 x.b2) (bits .and .u8 x.i2 x.b2)))
    clear h7 h8 h9 hz ht hh hB
    go_wp2_with fail
    clear hf a2
    have h7 := s_h7
    have h8 := s_h8
    have h9 := s_h9
    have hz := s_hz
    have ht := s_ht
    have hh := s_hh
    have hB := s_B
    clear s_h7 s_h8 s_h9 s_hz s_ht s_hh s_B
    generalize wd22.setCell ⟨w.heap.size + 2, 2, none⟩ (.int .u8 (bits .or .u8 (bits .andNot .u8 vc2 x.b2) (bits .and .u8 x.i2 x.b2))) = we22 at *
    generalize bits .or .u8 (bits .andNot .u8 vc2 x.b2) (bits .and .u8 x.i2 x.b2) = vc3 at *
    rw [rounds_succ]
    clear hz m4 m5 m6 m7
    go_wp2_with fail
    rw [rounds_succ]
    go_wp2_with fail
    go_ret
    exact ⟨rfl, hB⟩
theorem MaskBoth_walk (z0 z1 z2 : List Int) (w : World) (l0 : z0.length = 16) (h0 : ∀ p ∈ [IntKind.i64, .i64, .u8, .u8, .u8, .u8, .u8, .u8, .i64, .i64, .u8, .u8, .u8, .u8, .u8, .u8].zip z0, (Lit.int p.1 p.2).wf = true) (l1 : z1.length = 2) (h1 : ∀ p ∈ [IntKind.i64, .i64].zip z1, (Lit.int p.1 p.2).wf = true) (l2 : z2.length = 3) (h2 : ∀ p ∈ [IntKind.u8, .u8, .u8].zip z2, (Lit.int p.1 p.2).wf = true) :
    Calls Try.prog 11 #[.agg (List.zipWith Value.int [.i64, .i64, .u8, .u8, .u8, .u8, .u8, .u8, .i64, .i64, .u8, .u8, .u8, .u8, .u8, .u8] z0).toArray, .agg (List.zipWith Value.int [.i64, .i64] z1).toArray, .agg (List.zipWith Value.int [.u8, .u8, .u8] z2).toArray] w fun e w' => e = .returned (.bool true) ∧ Below w.heap.size w w' := by
  obtain ⟨x, y, rfl, _, _⟩ := masks_of z0 l0 h0
  obtain ⟨p, q, rfl⟩ := two_of z1 l1
  obtain ⟨a, b, c, rfl, _⟩ := header_of z2 l2 h2
  exact maskBoth_any x y p q a b c w
end Go.Proofs.Ytaaflgaeeldkhaa.Oct
