/- The walks of MaskFits, MaskMeets and MaskOnly. -/
import Derived.Test.YtaaflgaeeldkhaaMskW
import Derived.Test.YtaaflgaeeldkhaaMskX
namespace Go.Proofs.Ytaaflgaeeldkhaa.Oct
open Go.RowKit
set_option linter.unusedVariables false
set_option linter.unusedSimpArgs false

theorem eqMB_same (m : MaskV) : eqMB m m = true := by rw [eqMB_all]; simp

set_option maxRecDepth 100000 in
set_option maxHeartbeats 4000000 in
theorem maskFits_any (x : MaskV) (p q a b c : Int) (w : World) : Calls Try.prog 8 #[.agg #[.int .i64 x.v, .int .i64 x.m, .int .u8 x.b0, .int .u8 x.b1, .int .u8 x.b2, .int .u8 x.i0, .int .u8 x.i1, .int .u8 x.i2], .agg #[.int .i64 p, .int .i64 q], .agg #[.int .u8 a, .int .u8 b, .int .u8 c]] w fun e w' => e = .returned (.bool true) ∧ Below w.heap.size w w' := by
  have hx : Vb 25 (((w.alloc (.cells #[.int .i64 x.v, .int .i64 x.m, .int .u8 x.b0, .int .u8 x.b1, .int .u8 x.b2, .int .u8 x.i0, .int .u8 x.i1, .int .u8 x.i2] 25)).alloc (.cells #[.int .i64 p, .int .i64 q] 52)).alloc (.cells #[.int .u8 a, .int .u8 b, .int .u8 c] 23)) w.heap.size [.int .i64 x.v, .int .i64 x.m, .int .u8 x.b0, .int .u8 x.b1, .int .u8 x.b2, .int .u8 x.i0, .int .u8 x.i1, .int .u8 x.i2] := ((Vb.new 25 w [.int .i64 x.v, .int .i64 x.m, .int .u8 x.b0, .int .u8 x.b1, .int .u8 x.b2, .int .u8 x.i0, .int .u8 x.i1, .int .u8 x.i2]).alloc _).alloc _
  have ht : Vb 52 (((w.alloc (.cells #[.int .i64 x.v, .int .i64 x.m, .int .u8 x.b0, .int .u8 x.b1, .int .u8 x.b2, .int .u8 x.i0, .int .u8 x.i1, .int .u8 x.i2] 25)).alloc (.cells #[.int .i64 p, .int .i64 q] 52)).alloc (.cells #[.int .u8 a, .int .u8 b, .int .u8 c] 23)) (w.heap.size + 1) [.int .i64 p, .int .i64 q] := by have := (Vb.new 52 (w.alloc (.cells #[.int .i64 x.v, .int .i64 x.m, .int .u8 x.b0, .int .u8 x.b1, .int .u8 x.b2, .int .u8 x.i0, .int .u8 x.i1, .int .u8 x.i2] 25)) [.int .i64 p, .int .i64 q]).alloc (.cells #[.int .u8 a, .int .u8 b, .int .u8 c] 23); simpa using this
  have hh : Vb 23 (((w.alloc (.cells #[.int .i64 x.v, .int .i64 x.m, .int .u8 x.b0, .int .u8 x.b1, .int .u8 x.b2, .int .u8 x.i0, .int .u8 x.i1, .int .u8 x.i2] 25)).alloc (.cells #[.int .i64 p, .int .i64 q] 52)).alloc (.cells #[.int .u8 a, .int .u8 b, .int .u8 c] 23)) (w.heap.size + 2) [.int .u8 a, .int .u8 b, .int .u8 c] := by have := Vb.new 23 ((w.alloc (.cells #[.int .i64 x.v, .int .i64 x.m, .int .u8 x.b0, .int .u8 x.b1, .int .u8 x.b2, .int .u8 x.i0, .int .u8 x.i1, .int .u8 x.i2] 25)).alloc (.cells #[.int .i64 p, .int .i64 q] 52)) [.int .u8 a, .int .u8 b, .int .u8 c]; simpa using this
  have hB := (below_two w (.cells #[.int .i64 x.v, .int .i64 x.m, .int .u8 x.b0, .int .u8 x.b1, .int .u8 x.b2, .int .u8 x.i0, .int .u8 x.i1, .int .u8 x.i2] 25) (.cells #[.int .i64 p, .int .i64 q] 52)).alloc (by simp; omega) (.cells #[.int .u8 a, .int .u8 b, .int .u8 c] 23)
  have he := Kp.mk (fun W => (eq_mask ⟨0, -1, 0, 0, 0, 0, 0, 0⟩ ⟨0, -1, 0, 0, 0, 0, 0, 0⟩ W).trans (by rw [eqMB_same]))
  have hfr := Kp.mk (fitsM_is x p q a b c)
  go_enter Try.func8, Try.ntmps8
  go_upto_region 1 with fail
  generalize ((w.alloc (.cells #[.int .i64 x.v, .int .i64 x.m, .int .u8 x.b0, .int .u8 x.b1, .int .u8 x.b2, .int .u8 x.i0, .int .u8 x.i1, .int .u8 x.i2] 25)).alloc (.cells #[.int .i64 p, .int .i64 q] 52)).alloc (.cells #[.int .u8 a, .int .u8 b, .int .u8 c] 23) = w0 at *
  replace hB : Below w.heap.size w w0.drew := hB.drew
  have hS0 : (fun W => Vb 25 W w.heap.size [.int .i64 x.v, .int .i64 x.m, .int .u8 x.b0, .int .u8 x.b1, .int .u8 x.b2, .int .u8 x.i0, .int .u8 x.i1, .int .u8 x.i2] ∧ Vb 52 W (w.heap.size + 1) [.int .i64 p, .int .i64 q] ∧ Vb 23 W (w.heap.size + 2) [.int .u8 a, .int .u8 b, .int .u8 c]) w0.drew := ⟨hx, ht, hh⟩
  refine wp_region_held_drew (S := fun W => Vb 25 W w.heap.size [.int .i64 x.v, .int .i64 x.m, .int .u8 x.b0, .int .u8 x.b1, .int .u8 x.b2, .int .u8 x.i0, .int .u8 x.i1, .int .u8 x.i2] ∧ Vb 52 W (w.heap.size + 1) [.int .i64 p, .int .i64 q] ∧ Vb 23 W (w.heap.size + 2) [.int .u8 a, .int .u8 b, .int .u8 c]) (by kernel_rfl) hS0 (fun _ => ?_)
  clear hx ht hh
  generalize w0.drew = u0 at *
  refine wpAnyH_ready (rs := [0]) (by kernel_rfl) (by simp) ?_
  refine AllReadyH.cons rfl (fun K hK => ?_) AllReadyH.nil
  try rw [if_pos (by rfl)]
  go_simp
  go_at_call 31
  refine (anyM_any _).mono ?_
  rintro e v1 ⟨rfl, hb1⟩
  have hB1 := hB.trans (hb1.mono hB.size)
  refine hK.out _ _ (⟨hS0.1.below hb1 hS0.1.lt, hS0.2.1.below hb1 hS0.2.1.lt, hS0.2.2.below hb1 hS0.2.2.lt⟩) (fun hS1 => ?_)
  clear hK K
  try simp only [Act.put, List.setIfInBounds_toArray, List.set_cons_zero, List.set_cons_succ]
  refine wpAnyH_ready (rs := [1]) (by kernel_rfl) (by simp) ?_
  refine AllReadyH.cons rfl (fun K hK => ?_) AllReadyH.nil
  try rw [if_pos (by rfl)]
  go_simp
  go_at_call 32
  refine (refAnyM_any _).mono ?_
  rintro e v2 ⟨rfl, hb2⟩
  have hB2 := hB1.trans (hb2.mono hB1.size)
  refine hK.out _ _ (⟨hS1.1.below hb2 hS1.1.lt, hS1.2.1.below hb2 hS1.2.1.lt, hS1.2.2.below hb2 hS1.2.2.lt⟩) (fun hS2 => ?_)
  clear hK K
  try simp only [Act.put, List.setIfInBounds_toArray, List.set_cons_zero, List.set_cons_succ]
  refine takeD (i := 2) (v := .bool true) (some 9) rfl rfl (by kernel_rfl) (by kernel_rfl) (by kernel_rfl) (fun _ _ _ h => h) (Or.inl ⟨by rfl, ?_⟩) hS2 ?_
  · rintro w' _
    have hfact0 := he.out
    go_simp
  try simp only [Act.put, List.setIfInBounds_toArray, List.set_cons_zero, List.set_cons_succ]
  refine takeD (i := 3) (v := .bool true) (some 10) rfl rfl (by kernel_rfl) (by kernel_rfl) (by kernel_rfl) (fun _ _ _ h => h) (Or.inl ⟨by rfl, ?_⟩) hS2 ?_
  · rintro w' _
    go_simp
  try simp only [Act.put, List.setIfInBounds_toArray, List.set_cons_zero, List.set_cons_succ]
  refine takeD (i := 4) (v := .agg #[.int .i64 x.v, .int .i64 x.m, .int .u8 x.b0, .int .u8 x.b1, .int .u8 x.b2, .int .u8 x.i0, .int .u8 x.i1, .int .u8 x.i2]) (some 11) rfl rfl (by kernel_rfl) (by kernel_rfl) (by kernel_rfl) (fun _ _ _ h => h) (Or.inl ⟨by rfl, ?_⟩) hS2 ?_
  · rintro w' ⟨s0, s1, s2⟩
    have d0 := s0.cell 0 rfl
    have d1 := s0.cell 1 rfl
    have d2 := s0.cell 2 rfl
    have d3 := s0.cell 3 rfl
    have d4 := s0.cell 4 rfl
    have d5 := s0.cell 5 rfl
    have d6 := s0.cell 6 rfl
    have d7 := s0.cell 7 rfl
    go_simp
  try simp only [Act.put, List.setIfInBounds_toArray, List.set_cons_zero, List.set_cons_succ]
  refine takeD (i := 5) (v := .pointer (some ⟨w.heap.size + 1, 0, none⟩)) (some 12) rfl rfl (by kernel_rfl) (by kernel_rfl) (by kernel_rfl) (fun _ _ _ h => h) (Or.inl ⟨by rfl, ?_⟩) hS2 ?_
  · rintro w' _
    go_simp
  try simp only [Act.put, List.setIfInBounds_toArray, List.set_cons_zero, List.set_cons_succ]
  refine takeD (i := 6) (v := .int .i64 p) (some 13) rfl rfl (by kernel_rfl) (by kernel_rfl) (by kernel_rfl) (fun _ _ _ h => h) (Or.inl ⟨by rfl, ?_⟩) hS2 ?_
  · rintro w' ⟨s0, s1, s2⟩
    have d0 := s1.cell 0 rfl
    have d1 := s1.cell 1 rfl
    go_simp
  try simp only [Act.put, List.setIfInBounds_toArray, List.set_cons_zero, List.set_cons_succ]
  refine takeD (i := 7) (v := .pointer (some ⟨w.heap.size + 1, 1, none⟩)) (some 14) rfl rfl (by kernel_rfl) (by kernel_rfl) (by kernel_rfl) (fun _ _ _ h => h) (Or.inl ⟨by rfl, ?_⟩) hS2 ?_
  · rintro w' _
    go_simp
  try simp only [Act.put, List.setIfInBounds_toArray, List.set_cons_zero, List.set_cons_succ]
  refine takeD (i := 8) (v := .int .i64 q) (some 15) rfl rfl (by kernel_rfl) (by kernel_rfl) (by kernel_rfl) (fun _ _ _ h => h) (Or.inl ⟨by rfl, ?_⟩) hS2 ?_
  · rintro w' ⟨s0, s1, s2⟩
    have d0 := s1.cell 0 rfl
    have d1 := s1.cell 1 rfl
    go_simp
  try simp only [Act.put, List.setIfInBounds_toArray, List.set_cons_zero, List.set_cons_succ]
  refine takeD (i := 9) (v := .agg #[.int .u8 a, .int .u8 b, .int .u8 c]) (some 16) rfl rfl (by kernel_rfl) (by kernel_rfl) (by kernel_rfl) (fun _ _ _ h => h) (Or.inl ⟨by rfl, ?_⟩) hS2 ?_
  · rintro w' ⟨s0, s1, s2⟩
    have d0 := s2.cell 0 rfl
    have d1 := s2.cell 1 rfl
    have d2 := s2.cell 2 rfl
    go_simp
  try simp only [Act.put, List.setIfInBounds_toArray, List.set_cons_zero, List.set_cons_succ]
  refine takeD (i := 11) (v := .agg #[.int .i64 x.v, .int .i64 x.m, .int .u8 x.b0, .int .u8 x.b1, .int .u8 x.b2, .int .u8 x.i0, .int .u8 x.i1, .int .u8 x.i2]) (some 18) rfl rfl (by kernel_rfl) (by kernel_rfl) (by kernel_rfl) (fun _ _ _ h => h) (Or.inl ⟨by rfl, ?_⟩) hS2 ?_
  · rintro w' ⟨s0, s1, s2⟩
    have d0 := s0.cell 0 rfl
    have d1 := s0.cell 1 rfl
    have d2 := s0.cell 2 rfl
    have d3 := s0.cell 3 rfl
    have d4 := s0.cell 4 rfl
    have d5 := s0.cell 5 rfl
    have d6 := s0.cell 6 rfl
    have d7 := s0.cell 7 rfl
    go_simp
  try simp only [Act.put, List.setIfInBounds_toArray, List.set_cons_zero, List.set_cons_succ]
  refine takeD (i := 12) (v := .pointer (some ⟨w.heap.size + 1, 0, none⟩)) (some 19) rfl rfl (by kernel_rfl) (by kernel_rfl) (by kernel_rfl) (fun _ _ _ h => h) (Or.inl ⟨by rfl, ?_⟩) hS2 ?_
  · rintro w' _
    go_simp
  try simp only [Act.put, List.setIfInBounds_toArray, List.set_cons_zero, List.set_cons_succ]
  refine takeD (i := 13) (v := .int .i64 p) (some 20) rfl rfl (by kernel_rfl) (by kernel_rfl) (by kernel_rfl) (fun _ _ _ h => h) (Or.inl ⟨by rfl, ?_⟩) hS2 ?_
  · rintro w' ⟨s0, s1, s2⟩
    have d0 := s1.cell 0 rfl
    have d1 := s1.cell 1 rfl
    go_simp
  try simp only [Act.put, List.setIfInBounds_toArray, List.set_cons_zero, List.set_cons_succ]
  refine takeD (i := 14) (v := .pointer (some ⟨w.heap.size + 1, 1, none⟩)) (some 21) rfl rfl (by kernel_rfl) (by kernel_rfl) (by kernel_rfl) (fun _ _ _ h => h) (Or.inl ⟨by rfl, ?_⟩) hS2 ?_
  · rintro w' _
    go_simp
  try simp only [Act.put, List.setIfInBounds_toArray, List.set_cons_zero, List.set_cons_succ]
  refine takeD (i := 15) (v := .int .i64 q) (some 22) rfl rfl (by kernel_rfl) (by kernel_rfl) (by kernel_rfl) (fun _ _ _ h => h) (Or.inl ⟨by rfl, ?_⟩) hS2 ?_
  · rintro w' ⟨s0, s1, s2⟩
    have d0 := s1.cell 0 rfl
    have d1 := s1.cell 1 rfl
    go_simp
  try simp only [Act.put, List.setIfInBounds_toArray, List.set_cons_zero, List.set_cons_succ]
  refine takeD (i := 16) (v := .agg #[.int .u8 a, .int .u8 b, .int .u8 c]) (some 23) rfl rfl (by kernel_rfl) (by kernel_rfl) (by kernel_rfl) (fun _ _ _ h => h) (Or.inl ⟨by rfl, ?_⟩) hS2 ?_
  · rintro w' ⟨s0, s1, s2⟩
    have d0 := s2.cell 0 rfl
    have d1 := s2.cell 1 rfl
    have d2 := s2.cell 2 rfl
    go_simp
  try simp only [Act.put, List.setIfInBounds_toArray, List.set_cons_zero, List.set_cons_succ]
  refine wpAnyH_ready (rs := [10]) (by kernel_rfl) (by simp) ?_
  refine AllReadyH.cons rfl (fun K hK => ?_) AllReadyH.nil
  try rw [if_pos (by rfl)]
  go_simp
  go_at_call 33
  refine (fitsM_any x p q a b c _).mono ?_
  rw [hfr.out]
  rintro e v3 ⟨rfl, hb3⟩
  have hB3 := hB2.trans (hb3.mono hB2.size)
  refine hK.out _ _ (⟨hS2.1.below hb3 hS2.1.lt, hS2.2.1.below hb3 hS2.2.1.lt, hS2.2.2.below hb3 hS2.2.2.lt⟩) (fun hS3 => ?_)
  clear hK K
  try simp only [Act.put, List.setIfInBounds_toArray, List.set_cons_zero, List.set_cons_succ]
  refine wpAnyH_ready (rs := [17]) (by kernel_rfl) (by simp) ?_
  refine AllReadyH.cons rfl (fun K hK => ?_) AllReadyH.nil
  try rw [if_pos (by rfl)]
  go_simp
  go_at_call 34
  refine (refFits_any x p q a b c _).mono ?_
  rintro e v4 ⟨rfl, hb4⟩
  have hB4 := hB3.trans (hb4.mono hB3.size)
  refine hK.out _ _ (⟨hS3.1.below hb4 hS3.1.lt, hS3.2.1.below hb4 hS3.2.1.lt, hS3.2.2.below hb4 hS3.2.2.lt⟩) (fun hS4 => ?_)
  clear hK K
  try simp only [Act.put, List.setIfInBounds_toArray, List.set_cons_zero, List.set_cons_succ]
  generalize fitsR x p q a b c = k at *
  have hkk : (k == k) = true := by simp
  refine takeD (i := 18) (v := .bool true) (some 25) rfl rfl (by kernel_rfl) (by kernel_rfl) (by kernel_rfl) (fun _ _ _ h => h) (Or.inl ⟨by rfl, ?_⟩) hS4 ?_
  · rintro w' _
    go_simp
  try simp only [Act.put, List.setIfInBounds_toArray, List.set_cons_zero, List.set_cons_succ]
  refine takeD (i := 19) (v := .bool true) (some 26) rfl rfl (by kernel_rfl) (by kernel_rfl) (by kernel_rfl) (fun _ _ _ h => h) (Or.inl ⟨by rfl, ?_⟩) hS4 ?_
  · rintro w' _
    go_simp
  try simp only [Act.put, List.setIfInBounds_toArray, List.set_cons_zero, List.set_cons_succ]
  refine takeD (i := 20) (v := .bool true) (some 27) rfl rfl (by kernel_rfl) (by kernel_rfl) (by kernel_rfl) (fun _ _ _ h => h) (Or.inl ⟨by rfl, ?_⟩) hS4 ?_
  · rintro w' _
    go_simp
  try simp only [Act.put, List.setIfInBounds_toArray, List.set_cons_zero, List.set_cons_succ]
  refine wpAnyH_ready (rs := [21]) (by kernel_rfl) (by simp) ?_
  refine AllReadyH.cons rfl (fun K hK => ?_) AllReadyH.nil
  try rw [if_pos (by rfl)]
  go_simp
  go_at_call 35
  refine (worksM_any _).mono ?_
  rintro e v5 ⟨rfl, hb5⟩
  have hB5 := hB4.trans (hb5.mono hB4.size)
  refine hK.out _ _ (⟨hS4.1.below hb5 hS4.1.lt, hS4.2.1.below hb5 hS4.2.1.lt, hS4.2.2.below hb5 hS4.2.2.lt⟩) (fun hS5 => ?_)
  clear hK K
  try simp only [Act.put, List.setIfInBounds_toArray, List.set_cons_zero, List.set_cons_succ]
  refine takeD (i := 22) (v := .bool true) (some 29) rfl rfl (by kernel_rfl) (by kernel_rfl) (by kernel_rfl) (fun _ _ _ h => h) (Or.inl ⟨by rfl, ?_⟩) hS5 ?_
  · rintro w' _
    go_simp
  try simp only [Act.put, List.setIfInBounds_toArray, List.set_cons_zero, List.set_cons_succ]
  refine takeD (i := 23) (v := .bool true) (some 6) rfl rfl (by kernel_rfl) (by kernel_rfl) (by kernel_rfl) (fun _ _ _ h => h) (Or.inl ⟨by rfl, ?_⟩) hS5 ?_
  · rintro w' _
    go_simp
  try simp only [Act.put, List.setIfInBounds_toArray, List.set_cons_zero, List.set_cons_succ]
  refine wpAnyH_done (by kernel_rfl) ?_ _
  go_wp2_with fail
  go_ret
  exact ⟨rfl, hB5⟩
theorem MaskFits_walk (z0 z1 z2 : List Int) (w : World) (l0 : z0.length = 8) (h0 : ∀ p ∈ [IntKind.i64, .i64, .u8, .u8, .u8, .u8, .u8, .u8].zip z0, (Lit.int p.1 p.2).wf = true) (l1 : z1.length = 2) (h1 : ∀ p ∈ [IntKind.i64, .i64].zip z1, (Lit.int p.1 p.2).wf = true) (l2 : z2.length = 3) (h2 : ∀ p ∈ [IntKind.u8, .u8, .u8].zip z2, (Lit.int p.1 p.2).wf = true) :
    Calls Try.prog 8 #[.agg (List.zipWith Value.int [.i64, .i64, .u8, .u8, .u8, .u8, .u8, .u8] z0).toArray, .agg (List.zipWith Value.int [.i64, .i64] z1).toArray, .agg (List.zipWith Value.int [.u8, .u8, .u8] z2).toArray] w fun e w' => e = .returned (.bool true) ∧ Below w.heap.size w w' := by
  obtain ⟨x, rfl, hx⟩ := mask_of z0 l0 h0
  obtain ⟨p, q, rfl⟩ := two_of z1 l1
  obtain ⟨a, b, c, rfl, _⟩ := header_of z2 l2 h2
  exact maskFits_any x p q a b c w
set_option maxRecDepth 100000 in
set_option maxHeartbeats 4000000 in
theorem maskMeets_any (x y : MaskV) (hy8 : MB y) (w : World) : Calls Try.prog 9 #[.agg #[.int .i64 x.v, .int .i64 x.m, .int .u8 x.b0, .int .u8 x.b1, .int .u8 x.b2, .int .u8 x.i0, .int .u8 x.i1, .int .u8 x.i2], .agg #[.int .i64 y.v, .int .i64 y.m, .int .u8 y.b0, .int .u8 y.b1, .int .u8 y.b2, .int .u8 y.i0, .int .u8 y.i1, .int .u8 y.i2]] w fun e w' => e = .returned (.bool true) ∧ Below w.heap.size w w' := by
  have hx : Vb 25 ((w.alloc (.cells #[.int .i64 x.v, .int .i64 x.m, .int .u8 x.b0, .int .u8 x.b1, .int .u8 x.b2, .int .u8 x.i0, .int .u8 x.i1, .int .u8 x.i2] 25)).alloc (.cells #[.int .i64 y.v, .int .i64 y.m, .int .u8 y.b0, .int .u8 y.b1, .int .u8 y.b2, .int .u8 y.i0, .int .u8 y.i1, .int .u8 y.i2] 25)) w.heap.size [.int .i64 x.v, .int .i64 x.m, .int .u8 x.b0, .int .u8 x.b1, .int .u8 x.b2, .int .u8 x.i0, .int .u8 x.i1, .int .u8 x.i2] := (Vb.new 25 w [.int .i64 x.v, .int .i64 x.m, .int .u8 x.b0, .int .u8 x.b1, .int .u8 x.b2, .int .u8 x.i0, .int .u8 x.i1, .int .u8 x.i2]).alloc _
  have hy : Vb 25 ((w.alloc (.cells #[.int .i64 x.v, .int .i64 x.m, .int .u8 x.b0, .int .u8 x.b1, .int .u8 x.b2, .int .u8 x.i0, .int .u8 x.i1, .int .u8 x.i2] 25)).alloc (.cells #[.int .i64 y.v, .int .i64 y.m, .int .u8 y.b0, .int .u8 y.b1, .int .u8 y.b2, .int .u8 y.i0, .int .u8 y.i1, .int .u8 y.i2] 25)) (w.heap.size + 1) [.int .i64 y.v, .int .i64 y.m, .int .u8 y.b0, .int .u8 y.b1, .int .u8 y.b2, .int .u8 y.i0, .int .u8 y.i1, .int .u8 y.i2] := by have := Vb.new 25 (w.alloc (.cells #[.int .i64 x.v, .int .i64 x.m, .int .u8 x.b0, .int .u8 x.b1, .int .u8 x.b2, .int .u8 x.i0, .int .u8 x.i1, .int .u8 x.i2] 25)) [.int .i64 y.v, .int .i64 y.m, .int .u8 y.b0, .int .u8 y.b1, .int .u8 y.b2, .int .u8 y.i0, .int .u8 y.i1, .int .u8 y.i2]; simpa using this
  have hB := below_two w (.cells #[.int .i64 x.v, .int .i64 x.m, .int .u8 x.b0, .int .u8 x.b1, .int .u8 x.b2, .int .u8 x.i0, .int .u8 x.i1, .int .u8 x.i2] 25) (.cells #[.int .i64 y.v, .int .i64 y.m, .int .u8 y.b0, .int .u8 y.b1, .int .u8 y.b2, .int .u8 y.i0, .int .u8 y.i1, .int .u8 y.i2] 25)
  have hcr := Kp.mk (coversP_is x y hy8.1 hy8.2.1 hy8.2.2.1)
  clear hy8
  go_enter Try.func9, Try.ntmps9
  go_upto_region 1 with fail
  generalize (w.alloc (.cells #[.int .i64 x.v, .int .i64 x.m, .int .u8 x.b0, .int .u8 x.b1, .int .u8 x.b2, .int .u8 x.i0, .int .u8 x.i1, .int .u8 x.i2] 25)).alloc (.cells #[.int .i64 y.v, .int .i64 y.m, .int .u8 y.b0, .int .u8 y.b1, .int .u8 y.b2, .int .u8 y.i0, .int .u8 y.i1, .int .u8 y.i2] 25) = w0 at *
  go_wp2_with (first | refine wpList_load_vb (vs := [.int .i64 x.v, .int .i64 x.m, .int .u8 x.b0, .int .u8 x.b1, .int .u8 x.b2, .int .u8 x.i0, .int .u8 x.i1, .int .u8 x.i2]) rfl (.tmp 2) rfl rfl hx rfl agg_mask ?_ | refine wpList_load_vb (vs := [.int .i64 y.v, .int .i64 y.m, .int .u8 y.b0, .int .u8 y.b1, .int .u8 y.b2, .int .u8 y.i0, .int .u8 y.i1, .int .u8 y.i2]) rfl (.tmp 3) rfl rfl hy rfl agg_mask ?_)
  refine (meet_any x y _).mono ?_
  rintro e w11 ⟨rfl, hb⟩
  replace hx := hx.below hb hx.lt
  replace hy := hy.below hb hy.lt
  replace hB := hB.trans (hb.mono hB.size)
  clear hb
  have hm : (mcl (meetV x y)).toArray = #[.int .i64 (meetV x y).v, .int .i64 (meetV x y).m, .int .u8 (meetV x y).b0, .int .u8 (meetV x y).b1, .int .u8 (meetV x y).b2, .int .u8 (meetV x y).i0, .int .u8 (meetV x y).i1, .int .u8 (meetV x y).i2] := rfl
  rw [hm]
  clear hm
  go_upto_region 2 with (refine wpList_store_new (vs := [.int .i64 (meetV x y).v, .int .i64 (meetV x y).m, .int .u8 (meetV x y).b0, .int .u8 (meetV x y).b1, .int .u8 (meetV x y).b2, .int .u8 (meetV x y).i0, .int .u8 (meetV x y).i1, .int .u8 (meetV x y).i2]) rfl (.tmp 5) (.tmp 13) rfl rfl rfl rfl rfl rfl agg_mask rfl ?_; intro w21 hm1 hb2 hz2)
  replace hx := hx.below hb2 hx.lt
  replace hy := hy.below hb2 hy.lt
  replace hB := hB.trans (hb2.mono hB.size)
  clear hb2 hz2
  generalize w11.heap.size = g1 at *
  go_wp2_with (first | refine wpList_load_vb (vs := [.int .i64 x.v, .int .i64 x.m, .int .u8 x.b0, .int .u8 x.b1, .int .u8 x.b2, .int .u8 x.i0, .int .u8 x.i1, .int .u8 x.i2]) rfl (.tmp 2) rfl rfl hx rfl agg_mask ?_ | refine wpList_load_vb (vs := [.int .i64 y.v, .int .i64 y.m, .int .u8 y.b0, .int .u8 y.b1, .int .u8 y.b2, .int .u8 y.i0, .int .u8 y.i1, .int .u8 y.i2]) rfl (.tmp 3) rfl rfl hy rfl agg_mask ?_)
  refine (refMeet_any x y _).mono ?_
  rintro e w12 ⟨rfl, hb⟩
  replace hx := hx.below hb hx.lt
  replace hy := hy.below hb hy.lt
  replace hm1 := hm1.below hb hm1.lt
  replace hB := hB.trans (hb.mono hB.size)
  clear hb
  have hm : (mcl (meetV x y)).toArray = #[.int .i64 (meetV x y).v, .int .i64 (meetV x y).m, .int .u8 (meetV x y).b0, .int .u8 (meetV x y).b1, .int .u8 (meetV x y).b2, .int .u8 (meetV x y).i0, .int .u8 (meetV x y).i1, .int .u8 (meetV x y).i2] := rfl
  rw [hm]
  clear hm
  go_upto_region 3 with (refine wpList_store_new (vs := [.int .i64 (meetV x y).v, .int .i64 (meetV x y).m, .int .u8 (meetV x y).b0, .int .u8 (meetV x y).b1, .int .u8 (meetV x y).b2, .int .u8 (meetV x y).i0, .int .u8 (meetV x y).i1, .int .u8 (meetV x y).i2]) rfl (.tmp 7) (.tmp 19) rfl rfl rfl rfl rfl rfl agg_mask rfl ?_; intro w22 hm2 hb2 hz2)
  replace hx := hx.below hb2 hx.lt
  replace hy := hy.below hb2 hy.lt
  replace hm1 := hm1.below hb2 hm1.lt
  replace hB := hB.trans (hb2.mono hB.size)
  clear hb2 hz2
  generalize w12.heap.size = g2 at *
  generalize meetV x y = m at *
  generalize meetB x y = k at *
  have he := Kp.mk (fun W => (eq_mask m m W).trans (by rw [eqMB_same]))
  have hkk : (k == k) = true := by simp
  replace hB : Below w.heap.size w w22.drew := hB.drew
  have hS0 : (fun W => Vb 25 W w.heap.size [.int .i64 x.v, .int .i64 x.m, .int .u8 x.b0, .int .u8 x.b1, .int .u8 x.b2, .int .u8 x.i0, .int .u8 x.i1, .int .u8 x.i2] ∧ Vb 25 W (w.heap.size + 1) [.int .i64 y.v, .int .i64 y.m, .int .u8 y.b0, .int .u8 y.b1, .int .u8 y.b2, .int .u8 y.i0, .int .u8 y.i1, .int .u8 y.i2] ∧ Vb 25 W g1 [.int .i64 m.v, .int .i64 m.m, .int .u8 m.b0, .int .u8 m.b1, .int .u8 m.b2, .int .u8 m.i0, .int .u8 m.i1, .int .u8 m.i2] ∧ Vb 25 W g2 [.int .i64 m.v, .int .i64 m.m, .int .u8 m.b0, .int .u8 m.b1, .int .u8 m.b2, .int .u8 m.i0, .int .u8 m.i1, .int .u8 m.i2]) w22.drew := ⟨hx, hy, hm1, hm2⟩
  refine wp_region_held_drew (S := fun W => Vb 25 W w.heap.size [.int .i64 x.v, .int .i64 x.m, .int .u8 x.b0, .int .u8 x.b1, .int .u8 x.b2, .int .u8 x.i0, .int .u8 x.i1, .int .u8 x.i2] ∧ Vb 25 W (w.heap.size + 1) [.int .i64 y.v, .int .i64 y.m, .int .u8 y.b0, .int .u8 y.b1, .int .u8 y.b2, .int .u8 y.i0, .int .u8 y.i1, .int .u8 y.i2] ∧ Vb 25 W g1 [.int .i64 m.v, .int .i64 m.m, .int .u8 m.b0, .int .u8 m.b1, .int .u8 m.b2, .int .u8 m.i0, .int .u8 m.i1, .int .u8 m.i2] ∧ Vb 25 W g2 [.int .i64 m.v, .int .i64 m.m, .int .u8 m.b0, .int .u8 m.b1, .int .u8 m.b2, .int .u8 m.i0, .int .u8 m.i1, .int .u8 m.i2]) (by kernel_rfl) hS0 (fun _ => ?_)
  clear hx hy hm1 hm2
  generalize w22.drew = u0 at *
  refine takeD (i := 0) (v := .agg #[.int .i64 m.v, .int .i64 m.m, .int .u8 m.b0, .int .u8 m.b1, .int .u8 m.b2, .int .u8 m.i0, .int .u8 m.i1, .int .u8 m.i2]) (some 21) rfl rfl (by kernel_rfl) (by kernel_rfl) (by kernel_rfl) (fun _ _ _ h => h) (Or.inl ⟨by rfl, ?_⟩) hS0 ?_
  · rintro w' ⟨s0, s1, s2, s3⟩
    have d0 := s2.cell 0 rfl
    have d1 := s2.cell 1 rfl
    have d2 := s2.cell 2 rfl
    have d3 := s2.cell 3 rfl
    have d4 := s2.cell 4 rfl
    have d5 := s2.cell 5 rfl
    have d6 := s2.cell 6 rfl
    have d7 := s2.cell 7 rfl
    go_simp
  try simp only [Act.put, List.setIfInBounds_toArray, List.set_cons_zero, List.set_cons_succ]
  refine takeD (i := 1) (v := .agg #[.int .i64 m.v, .int .i64 m.m, .int .u8 m.b0, .int .u8 m.b1, .int .u8 m.b2, .int .u8 m.i0, .int .u8 m.i1, .int .u8 m.i2]) (some 22) rfl rfl (by kernel_rfl) (by kernel_rfl) (by kernel_rfl) (fun _ _ _ h => h) (Or.inl ⟨by rfl, ?_⟩) hS0 ?_
  · rintro w' ⟨s0, s1, s2, s3⟩
    have d0 := s3.cell 0 rfl
    have d1 := s3.cell 1 rfl
    have d2 := s3.cell 2 rfl
    have d3 := s3.cell 3 rfl
    have d4 := s3.cell 4 rfl
    have d5 := s3.cell 5 rfl
    have d6 := s3.cell 6 rfl
    have d7 := s3.cell 7 rfl
    go_simp
  try simp only [Act.put, List.setIfInBounds_toArray, List.set_cons_zero, List.set_cons_succ]
  refine takeD (i := 2) (v := .bool true) (some 23) rfl rfl (by kernel_rfl) (by kernel_rfl) (by kernel_rfl) (fun _ _ _ h => h) (Or.inl ⟨by rfl, ?_⟩) hS0 ?_
  · rintro w' _
    have hfact0 := he.out
    go_simp
  try simp only [Act.put, List.setIfInBounds_toArray, List.set_cons_zero, List.set_cons_succ]
  refine takeD (i := 3) (v := .bool true) (some 24) rfl rfl (by kernel_rfl) (by kernel_rfl) (by kernel_rfl) (fun _ _ _ h => h) (Or.inl ⟨by rfl, ?_⟩) hS0 ?_
  · rintro w' _
    go_simp
  try simp only [Act.put, List.setIfInBounds_toArray, List.set_cons_zero, List.set_cons_succ]
  refine takeD (i := 4) (v := .bool k) (some 25) rfl rfl (by kernel_rfl) (by kernel_rfl) (by kernel_rfl) (fun _ _ _ h => h) (Or.inl ⟨by rfl, ?_⟩) hS0 ?_
  · rintro w' _
    go_simp
  try simp only [Act.put, List.setIfInBounds_toArray, List.set_cons_zero, List.set_cons_succ]
  refine takeD (i := 5) (v := .bool k) (some 26) rfl rfl (by kernel_rfl) (by kernel_rfl) (by kernel_rfl) (fun _ _ _ h => h) (Or.inl ⟨by rfl, ?_⟩) hS0 ?_
  · rintro w' _
    go_simp
  try simp only [Act.put, List.setIfInBounds_toArray, List.set_cons_zero, List.set_cons_succ]
  refine takeD (i := 6) (v := .bool true) (some 27) rfl rfl (by kernel_rfl) (by kernel_rfl) (by kernel_rfl) (fun _ _ _ h => h) (Or.inl ⟨by rfl, ?_⟩) hS0 ?_
  · rintro w' _
    go_simp
  try simp only [Act.put, List.setIfInBounds_toArray, List.set_cons_zero, List.set_cons_succ]
  refine takeD (i := 7) (v := .bool true) (some 28) rfl rfl (by kernel_rfl) (by kernel_rfl) (by kernel_rfl) (fun _ _ _ h => h) (Or.inl ⟨by rfl, ?_⟩) hS0 ?_
  · rintro w' _
    go_simp
  try simp only [Act.put, List.setIfInBounds_toArray, List.set_cons_zero, List.set_cons_succ]
  refine takeD (i := 8) (v := .bool true) (some 29) rfl rfl (by kernel_rfl) (by kernel_rfl) (by kernel_rfl) (fun _ _ _ h => h) (Or.inl ⟨by rfl, ?_⟩) hS0 ?_
  · rintro w' _
    go_simp
  try simp only [Act.put, List.setIfInBounds_toArray, List.set_cons_zero, List.set_cons_succ]
  refine takeD (i := 9) (v := .agg #[.int .i64 x.v, .int .i64 x.m, .int .u8 x.b0, .int .u8 x.b1, .int .u8 x.b2, .int .u8 x.i0, .int .u8 x.i1, .int .u8 x.i2]) (some 30) rfl rfl (by kernel_rfl) (by kernel_rfl) (by kernel_rfl) (fun _ _ _ h => h) (Or.inl ⟨by rfl, ?_⟩) hS0 ?_
  · rintro w' ⟨s0, s1, s2, s3⟩
    have d0 := s0.cell 0 rfl
    have d1 := s0.cell 1 rfl
    have d2 := s0.cell 2 rfl
    have d3 := s0.cell 3 rfl
    have d4 := s0.cell 4 rfl
    have d5 := s0.cell 5 rfl
    have d6 := s0.cell 6 rfl
    have d7 := s0.cell 7 rfl
    go_simp
  try simp only [Act.put, List.setIfInBounds_toArray, List.set_cons_zero, List.set_cons_succ]
  refine takeD (i := 10) (v := .agg #[.int .i64 y.v, .int .i64 y.m, .int .u8 y.b0, .int .u8 y.b1, .int .u8 y.b2, .int .u8 y.i0, .int .u8 y.i1, .int .u8 y.i2]) (some 31) rfl rfl (by kernel_rfl) (by kernel_rfl) (by kernel_rfl) (fun _ _ _ h => h) (Or.inl ⟨by rfl, ?_⟩) hS0 ?_
  · rintro w' ⟨s0, s1, s2, s3⟩
    have d0 := s1.cell 0 rfl
    have d1 := s1.cell 1 rfl
    have d2 := s1.cell 2 rfl
    have d3 := s1.cell 3 rfl
    have d4 := s1.cell 4 rfl
    have d5 := s1.cell 5 rfl
    have d6 := s1.cell 6 rfl
    have d7 := s1.cell 7 rfl
    go_simp
  try simp only [Act.put, List.setIfInBounds_toArray, List.set_cons_zero, List.set_cons_succ]
  refine takeD (i := 12) (v := .agg #[.int .i64 x.v, .int .i64 x.m, .int .u8 x.b0, .int .u8 x.b1, .int .u8 x.b2, .int .u8 x.i0, .int .u8 x.i1, .int .u8 x.i2]) (some 33) rfl rfl (by kernel_rfl) (by kernel_rfl) (by kernel_rfl) (fun _ _ _ h => h) (Or.inl ⟨by rfl, ?_⟩) hS0 ?_
  · rintro w' ⟨s0, s1, s2, s3⟩
    have d0 := s0.cell 0 rfl
    have d1 := s0.cell 1 rfl
    have d2 := s0.cell 2 rfl
    have d3 := s0.cell 3 rfl
    have d4 := s0.cell 4 rfl
    have d5 := s0.cell 5 rfl
    have d6 := s0.cell 6 rfl
    have d7 := s0.cell 7 rfl
    go_simp
  try simp only [Act.put, List.setIfInBounds_toArray, List.set_cons_zero, List.set_cons_succ]
  refine takeD (i := 13) (v := .agg #[.int .i64 y.v, .int .i64 y.m, .int .u8 y.b0, .int .u8 y.b1, .int .u8 y.b2, .int .u8 y.i0, .int .u8 y.i1, .int .u8 y.i2]) (some 34) rfl rfl (by kernel_rfl) (by kernel_rfl) (by kernel_rfl) (fun _ _ _ h => h) (Or.inl ⟨by rfl, ?_⟩) hS0 ?_
  · rintro w' ⟨s0, s1, s2, s3⟩
    have d0 := s1.cell 0 rfl
    have d1 := s1.cell 1 rfl
    have d2 := s1.cell 2 rfl
    have d3 := s1.cell 3 rfl
    have d4 := s1.cell 4 rfl
    have d5 := s1.cell 5 rfl
    have d6 := s1.cell 6 rfl
    have d7 := s1.cell 7 rfl
    go_simp
  try simp only [Act.put, List.setIfInBounds_toArray, List.set_cons_zero, List.set_cons_succ]
  refine wpAnyH_ready (rs := [11]) (by kernel_rfl) (by simp) ?_
  refine AllReadyH.cons rfl (fun K hK => ?_) AllReadyH.nil
  try rw [if_pos (by rfl)]
  go_simp
  go_at_call 38
  refine (coversM_any x y _).mono ?_
  rw [hcr.out]
  rintro e v1 ⟨rfl, hb1⟩
  have hB1 := hB.trans (hb1.mono hB.size)
  refine hK.out _ _ (⟨hS0.1.below hb1 hS0.1.lt, hS0.2.1.below hb1 hS0.2.1.lt, hS0.2.2.1.below hb1 hS0.2.2.1.lt, hS0.2.2.2.below hb1 hS0.2.2.2.lt⟩) (fun hS1 => ?_)
  clear hK K
  try simp only [Act.put, List.setIfInBounds_toArray, List.set_cons_zero, List.set_cons_succ]
  refine wpAnyH_ready (rs := [14]) (by kernel_rfl) (by simp) ?_
  refine AllReadyH.cons rfl (fun K hK => ?_) AllReadyH.nil
  try rw [if_pos (by rfl)]
  go_simp
  go_at_call 39
  refine (refCovers_any x y _).mono ?_
  rintro e v2 ⟨rfl, hb2⟩
  have hB2 := hB1.trans (hb2.mono hB1.size)
  refine hK.out _ _ (⟨hS1.1.below hb2 hS1.1.lt, hS1.2.1.below hb2 hS1.2.1.lt, hS1.2.2.1.below hb2 hS1.2.2.1.lt, hS1.2.2.2.below hb2 hS1.2.2.2.lt⟩) (fun hS2 => ?_)
  clear hK K
  try simp only [Act.put, List.setIfInBounds_toArray, List.set_cons_zero, List.set_cons_succ]
  generalize coversR x y = cv at *
  have hcc : (cv == cv) = true := by simp
  refine takeD (i := 15) (v := .bool true) (some 36) rfl rfl (by kernel_rfl) (by kernel_rfl) (by kernel_rfl) (fun _ _ _ h => h) (Or.inl ⟨by rfl, ?_⟩) hS2 ?_
  · rintro w' _
    go_simp
  try simp only [Act.put, List.setIfInBounds_toArray, List.set_cons_zero, List.set_cons_succ]
  refine takeD (i := 16) (v := .bool true) (some 37) rfl rfl (by kernel_rfl) (by kernel_rfl) (by kernel_rfl) (fun _ _ _ h => h) (Or.inl ⟨by rfl, ?_⟩) hS2 ?_
  · rintro w' _
    go_simp
  try simp only [Act.put, List.setIfInBounds_toArray, List.set_cons_zero, List.set_cons_succ]
  refine takeD (i := 17) (v := .bool true) (some 38) rfl rfl (by kernel_rfl) (by kernel_rfl) (by kernel_rfl) (fun _ _ _ h => h) (Or.inl ⟨by rfl, ?_⟩) hS2 ?_
  · rintro w' _
    go_simp
  try simp only [Act.put, List.setIfInBounds_toArray, List.set_cons_zero, List.set_cons_succ]
  refine wpAnyH_ready (rs := [18]) (by kernel_rfl) (by simp) ?_
  refine AllReadyH.cons rfl (fun K hK => ?_) AllReadyH.nil
  try rw [if_pos (by rfl)]
  go_simp
  go_at_call 35
  refine (worksM_any _).mono ?_
  rintro e v3 ⟨rfl, hb3⟩
  have hB3 := hB2.trans (hb3.mono hB2.size)
  refine hK.out _ _ (⟨hS2.1.below hb3 hS2.1.lt, hS2.2.1.below hb3 hS2.2.1.lt, hS2.2.2.1.below hb3 hS2.2.2.1.lt, hS2.2.2.2.below hb3 hS2.2.2.2.lt⟩) (fun hS3 => ?_)
  clear hK K
  try simp only [Act.put, List.setIfInBounds_toArray, List.set_cons_zero, List.set_cons_succ]
  refine takeD (i := 19) (v := .bool true) (some 40) rfl rfl (by kernel_rfl) (by kernel_rfl) (by kernel_rfl) (fun _ _ _ h => h) (Or.inl ⟨by rfl, ?_⟩) hS3 ?_
  · rintro w' _
    go_simp
  try simp only [Act.put, List.setIfInBounds_toArray, List.set_cons_zero, List.set_cons_succ]
  refine takeD (i := 20) (v := .bool true) (some 4) rfl rfl (by kernel_rfl) (by kernel_rfl) (by kernel_rfl) (fun _ _ _ h => h) (Or.inl ⟨by rfl, ?_⟩) hS3 ?_
  · rintro w' _
    go_simp
  try simp only [Act.put, List.setIfInBounds_toArray, List.set_cons_zero, List.set_cons_succ]
  refine wpAnyH_done (by kernel_rfl) ?_ _
  go_wp2_with fail
  go_ret
  exact ⟨rfl, hB3⟩
theorem MaskMeets_walk (z0 z1 : List Int) (w : World) (l0 : z0.length = 8) (h0 : ∀ p ∈ [IntKind.i64, .i64, .u8, .u8, .u8, .u8, .u8, .u8].zip z0, (Lit.int p.1 p.2).wf = true) (l1 : z1.length = 8) (h1 : ∀ p ∈ [IntKind.i64, .i64, .u8, .u8, .u8, .u8, .u8, .u8].zip z1, (Lit.int p.1 p.2).wf = true) :
    Calls Try.prog 9 #[.agg (List.zipWith Value.int [.i64, .i64, .u8, .u8, .u8, .u8, .u8, .u8] z0).toArray, .agg (List.zipWith Value.int [.i64, .i64, .u8, .u8, .u8, .u8, .u8, .u8] z1).toArray] w fun e w' => e = .returned (.bool true) ∧ Below w.heap.size w w' := by
  obtain ⟨x, rfl, hx⟩ := mask_of z0 l0 h0
  obtain ⟨y, rfl, hy⟩ := mask_of z1 l1 h1
  exact maskMeets_any x y hy w
set_option maxRecDepth 100000 in
set_option maxHeartbeats 4000000 in
theorem maskOnly_any (x : MaskV) (f b i : Int) (w : World) : Calls Try.prog 10 #[.agg #[.int .i64 x.v, .int .i64 x.m, .int .u8 x.b0, .int .u8 x.b1, .int .u8 x.b2, .int .u8 x.i0, .int .u8 x.i1, .int .u8 x.i2], .int .i64 f, .agg #[.int .u8 b, .int .u8 i]] w fun e w' => e = .returned (.bool true) ∧ Below w.heap.size w w' := by
  have hx : Vb 25 ((w.alloc (.cells #[.int .i64 x.v, .int .i64 x.m, .int .u8 x.b0, .int .u8 x.b1, .int .u8 x.b2, .int .u8 x.i0, .int .u8 x.i1, .int .u8 x.i2] 25)).alloc (.cells #[.int .u8 b, .int .u8 i] 59)) w.heap.size [.int .i64 x.v, .int .i64 x.m, .int .u8 x.b0, .int .u8 x.b1, .int .u8 x.b2, .int .u8 x.i0, .int .u8 x.i1, .int .u8 x.i2] := (Vb.new 25 w [.int .i64 x.v, .int .i64 x.m, .int .u8 x.b0, .int .u8 x.b1, .int .u8 x.b2, .int .u8 x.i0, .int .u8 x.i1, .int .u8 x.i2]).alloc _
  have hy : Vb 59 ((w.alloc (.cells #[.int .i64 x.v, .int .i64 x.m, .int .u8 x.b0, .int .u8 x.b1, .int .u8 x.b2, .int .u8 x.i0, .int .u8 x.i1, .int .u8 x.i2] 25)).alloc (.cells #[.int .u8 b, .int .u8 i] 59)) (w.heap.size + 1) [.int .u8 b, .int .u8 i] := by have := Vb.new 59 (w.alloc (.cells #[.int .i64 x.v, .int .i64 x.m, .int .u8 x.b0, .int .u8 x.b1, .int .u8 x.b2, .int .u8 x.i0, .int .u8 x.i1, .int .u8 x.i2] 25)) [.int .u8 b, .int .u8 i]; simpa using this
  have hB := below_two w (.cells #[.int .i64 x.v, .int .i64 x.m, .int .u8 x.b0, .int .u8 x.b1, .int .u8 x.b2, .int .u8 x.i0, .int .u8 x.i1, .int .u8 x.i2] 25) (.cells #[.int .u8 b, .int .u8 i] 59)
  go_enter Try.func10, Try.ntmps10
  go_upto_region 1 with fail
  generalize (w.alloc (.cells #[.int .i64 x.v, .int .i64 x.m, .int .u8 x.b0, .int .u8 x.b1, .int .u8 x.b2, .int .u8 x.i0, .int .u8 x.i1, .int .u8 x.i2] 25)).alloc (.cells #[.int .u8 b, .int .u8 i] 59) = w0 at *
  have e0 := hy.cell 0 rfl
  have e1 := hy.cell 1 rfl
  go_wp2_with (refine wpList_load_vb (vs := [.int .i64 x.v, .int .i64 x.m, .int .u8 x.b0, .int .u8 x.b1, .int .u8 x.b2, .int .u8 x.i0, .int .u8 x.i1, .int .u8 x.i2]) rfl (.tmp 3) rfl rfl hx rfl agg_mask ?_)
  clear e0 e1
  refine (onlyM_any x f b i _).mono ?_
  rintro e w11 ⟨rfl, hb⟩
  replace hx := hx.below hb hx.lt
  replace hy := hy.below hb hy.lt
  replace hB := hB.trans (hb.mono hB.size)
  clear hb
  have hm : (mcl (onlyV x f b i)).toArray = #[.int .i64 (onlyV x f b i).v, .int .i64 (onlyV x f b i).m, .int .u8 (onlyV x f b i).b0, .int .u8 (onlyV x f b i).b1, .int .u8 (onlyV x f b i).b2, .int .u8 (onlyV x f b i).i0, .int .u8 (onlyV x f b i).i1, .int .u8 (onlyV x f b i).i2] := rfl
  rw [hm]
  clear hm
  go_upto_region 2 with (refine wpList_store_new (vs := [.int .i64 (onlyV x f b i).v, .int .i64 (onlyV x f b i).m, .int .u8 (onlyV x f b i).b0, .int .u8 (onlyV x f b i).b1, .int .u8 (onlyV x f b i).b2, .int .u8 (onlyV x f b i).i0, .int .u8 (onlyV x f b i).i1, .int .u8 (onlyV x f b i).i2]) rfl (.tmp 7) (.tmp 19) rfl rfl rfl rfl rfl rfl agg_mask rfl ?_; intro w21 hm1 hb2 hz2)
  replace hx := hx.below hb2 hx.lt
  replace hy := hy.below hb2 hy.lt
  replace hB := hB.trans (hb2.mono hB.size)
  clear hb2 hz2
  generalize w11.heap.size = g1 at *
  have e0 := hy.cell 0 rfl
  have e1 := hy.cell 1 rfl
  go_wp2_with (refine wpList_load_vb (vs := [.int .i64 x.v, .int .i64 x.m, .int .u8 x.b0, .int .u8 x.b1, .int .u8 x.b2, .int .u8 x.i0, .int .u8 x.i1, .int .u8 x.i2]) rfl (.tmp 3) rfl rfl hx rfl agg_mask ?_)
  clear e0 e1
  refine (refOnlyM_any x f b i _).mono ?_
  rintro e w12 ⟨rfl, hb⟩
  replace hx := hx.below hb hx.lt
  replace hy := hy.below hb hy.lt
  replace hm1 := hm1.below hb hm1.lt
  replace hB := hB.trans (hb.mono hB.size)
  clear hb
  have hm : (mcl (onlyV x f b i)).toArray = #[.int .i64 (onlyV x f b i).v, .int .i64 (onlyV x f b i).m, .int .u8 (onlyV x f b i).b0, .int .u8 (onlyV x f b i).b1, .int .u8 (onlyV x f b i).b2, .int .u8 (onlyV x f b i).i0, .int .u8 (onlyV x f b i).i1, .int .u8 (onlyV x f b i).i2] := rfl
  rw [hm]
  clear hm
  go_upto_region 3 with (refine wpList_store_new (vs := [.int .i64 (onlyV x f b i).v, .int .i64 (onlyV x f b i).m, .int .u8 (onlyV x f b i).b0, .int .u8 (onlyV x f b i).b1, .int .u8 (onlyV x f b i).b2, .int .u8 (onlyV x f b i).i0, .int .u8 (onlyV x f b i).i1, .int .u8 (onlyV x f b i).i2]) rfl (.tmp 9) (.tmp 29) rfl rfl rfl rfl rfl rfl agg_mask rfl ?_; intro w22 hm2 hb2 hz2)
  replace hx := hx.below hb2 hx.lt
  replace hy := hy.below hb2 hy.lt
  replace hm1 := hm1.below hb2 hm1.lt
  replace hB := hB.trans (hb2.mono hB.size)
  clear hb2 hz2
  generalize w12.heap.size = g2 at *
  generalize onlyV x f b i = m at *
  generalize onlyB x f b i = k at *
  have he := Kp.mk (fun W => (eq_mask m m W).trans (by rw [eqMB_same]))
  have hq := he.out
  have hkk : (k == k) = true := by simp
  clear hx hy
  go_wp2_with (first | refine wpList_load_vb (vs := [.int .i64 m.v, .int .i64 m.m, .int .u8 m.b0, .int .u8 m.b1, .int .u8 m.b2, .int .u8 m.i0, .int .u8 m.i1, .int .u8 m.i2]) rfl (.tmp 7) rfl rfl hm1 rfl agg_mask ?_ | refine wpList_load_vb (vs := [.int .i64 m.v, .int .i64 m.m, .int .u8 m.b0, .int .u8 m.b1, .int .u8 m.b2, .int .u8 m.i0, .int .u8 m.i1, .int .u8 m.i2]) rfl (.tmp 9) rfl rfl hm2 rfl agg_mask ?_)
  refine (worksM_any _).mono ?_
  rintro e w9 ⟨rfl, hb⟩
  replace hB := hB.trans (hb.mono hB.size)
  go_wp2_with fail
  go_ret
  exact ⟨rfl, hB⟩
theorem MaskOnly_walk (z0 : List Int) (f : Int) (z1 : List Int) (w : World) (l0 : z0.length = 8) (h0 : ∀ p ∈ [IntKind.i64, .i64, .u8, .u8, .u8, .u8, .u8, .u8].zip z0, (Lit.int p.1 p.2).wf = true) (wf : (Lit.int .i64 f).wf = true) (l1 : z1.length = 2) (h1 : ∀ p ∈ [IntKind.u8, .u8].zip z1, (Lit.int p.1 p.2).wf = true) :
    Calls Try.prog 10 #[.agg (List.zipWith Value.int [.i64, .i64, .u8, .u8, .u8, .u8, .u8, .u8] z0).toArray, .int .i64 f, .agg (List.zipWith Value.int [.u8, .u8] z1).toArray] w fun e w' => e = .returned (.bool true) ∧ Below w.heap.size w w' := by
  obtain ⟨x, rfl, hx⟩ := mask_of z0 l0 h0
  obtain ⟨b, i, rfl⟩ := two_of z1 l1
  exact maskOnly_any x f b i w
end Go.Proofs.Ytaaflgaeeldkhaa.Oct
