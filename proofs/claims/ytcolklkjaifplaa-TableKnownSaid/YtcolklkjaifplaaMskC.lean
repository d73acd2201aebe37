/- Contracts of layer 7: Covers, Fits, Only. -/
import Derived.Test.YtcolklkjaifplaaMskB
namespace Go.Proofs.Ytcolklkjaifplaa.Oct
open Go.RowKit
set_option linter.unusedVariables false
set_option linter.unusedSimpArgs false

def coversP (x y : MaskV) : Bool := meetB x y && eqMB (meetV x y) (bareV y)
theorem coversP_no {x y : MaskV} (h : meetB x y = false) : coversP x y = false := by unfold coversP; rw [h]; rfl
theorem coversP_yes {x y : MaskV} (h : meetB x y = true) : coversP x y = eqMB (meetV x y) (bareV y) := by unfold coversP; rw [h]; rfl
/-- A mask that a version, a port and a header make. -/
def fitM (v p a b c : Int) : MaskV := ⟨v, p, 255, 255, 255, a, b, c⟩
def fitsM (x : MaskV) (v p a b c : Int) : Bool := coversP x (fitM v p a b c)
/-- What says that of a field. -/
def saysM (f b i : Int) : MaskV := ⟨0, -1, if f = 0 then b else 0, if f = 1 then b else 0, if f = 2 then b else 0, if f = 0 then i else 0, if f = 1 then i else 0, if f = 2 then i else 0⟩
def onlyB (x : MaskV) (f b i : Int) : Bool := if 0 ≤ f ∧ f < 3 then meetB x (saysM f b i) else false
def onlyV (x : MaskV) (f b i : Int) : MaskV := if 0 ≤ f ∧ f < 3 then meetV x (saysM f b i) else noMask
def OnlyOf (x : MaskV) (f b i : Int) (w : World) (e : Ending) (w' : World) : Prop := e = .returned (.tuple #[.agg (mcl (onlyV x f b i)).toArray, .bool (onlyB x f b i)]) ∧ Below w.heap.size w w'
theorem OnlyOf.no {x : MaskV} {f b i : Int} {w w' : World} (h : ¬ (0 ≤ f ∧ f < 3)) (hb : Below w.heap.size w w') : OnlyOf x f b i w (.returned (.tuple #[.agg (mcl noMask).toArray, .bool false])) w' := by
  refine ⟨?_, hb⟩; unfold onlyV onlyB; rw [if_neg h, if_neg h]
theorem OnlyOf.yes {x : MaskV} {f b i : Int} {w w' : World} (h : 0 ≤ f ∧ f < 3) (hb : Below w.heap.size w w') : OnlyOf x f b i w (.returned (.tuple #[.agg (mcl (meetV x (saysM f b i))).toArray, .bool (meetB x (saysM f b i))])) w' := by
  refine ⟨?_, hb⟩; unfold onlyV onlyB; rw [if_pos h, if_pos h]

set_option maxRecDepth 100000 in
set_option maxHeartbeats 4000000 in
theorem coversM_any (x y : MaskV) (w : World) : Calls Try.prog 57 #[.agg #[.int .i64 x.v, .int .i64 x.m, .int .u8 x.b0, .int .u8 x.b1, .int .u8 x.b2, .int .u8 x.i0, .int .u8 x.i1, .int .u8 x.i2], .agg #[.int .i64 y.v, .int .i64 y.m, .int .u8 y.b0, .int .u8 y.b1, .int .u8 y.b2, .int .u8 y.i0, .int .u8 y.i1, .int .u8 y.i2]] w fun e w' => e = .returned (.bool (coversP x y)) ∧ Below w.heap.size w w' := by
  have hx : Vb 28 ((w.alloc (.cells #[.int .i64 x.v, .int .i64 x.m, .int .u8 x.b0, .int .u8 x.b1, .int .u8 x.b2, .int .u8 x.i0, .int .u8 x.i1, .int .u8 x.i2] 28)).alloc (.cells #[.int .i64 y.v, .int .i64 y.m, .int .u8 y.b0, .int .u8 y.b1, .int .u8 y.b2, .int .u8 y.i0, .int .u8 y.i1, .int .u8 y.i2] 28)) w.heap.size [.int .i64 x.v, .int .i64 x.m, .int .u8 x.b0, .int .u8 x.b1, .int .u8 x.b2, .int .u8 x.i0, .int .u8 x.i1, .int .u8 x.i2] := (Vb.new 28 w (mcl x)).alloc _
  have hy : Vb 28 ((w.alloc (.cells #[.int .i64 x.v, .int .i64 x.m, .int .u8 x.b0, .int .u8 x.b1, .int .u8 x.b2, .int .u8 x.i0, .int .u8 x.i1, .int .u8 x.i2] 28)).alloc (.cells #[.int .i64 y.v, .int .i64 y.m, .int .u8 y.b0, .int .u8 y.b1, .int .u8 y.b2, .int .u8 y.i0, .int .u8 y.i1, .int .u8 y.i2] 28)) (w.heap.size + 1) [.int .i64 y.v, .int .i64 y.m, .int .u8 y.b0, .int .u8 y.b1, .int .u8 y.b2, .int .u8 y.i0, .int .u8 y.i1, .int .u8 y.i2] := by have := Vb.new 28 (w.alloc (.cells #[.int .i64 x.v, .int .i64 x.m, .int .u8 x.b0, .int .u8 x.b1, .int .u8 x.b2, .int .u8 x.i0, .int .u8 x.i1, .int .u8 x.i2] 28)) (mcl y); simpa [mcl] using this
  have hB := below_two w (.cells #[.int .i64 x.v, .int .i64 x.m, .int .u8 x.b0, .int .u8 x.b1, .int .u8 x.b2, .int .u8 x.i0, .int .u8 x.i1, .int .u8 x.i2] 28) (.cells #[.int .i64 y.v, .int .i64 y.m, .int .u8 y.b0, .int .u8 y.b1, .int .u8 y.b2, .int .u8 y.i0, .int .u8 y.i1, .int .u8 y.i2] 28)
  have Hno := Kp.mk (@coversP_no x y)
  have Hyes := Kp.mk (@coversP_yes x y)
  go_enter Try.func57, Try.ntmps57
  go_upto_region 1 with fail
  generalize (w.alloc (.cells #[.int .i64 x.v, .int .i64 x.m, .int .u8 x.b0, .int .u8 x.b1, .int .u8 x.b2, .int .u8 x.i0, .int .u8 x.i1, .int .u8 x.i2] 28)).alloc (.cells #[.int .i64 y.v, .int .i64 y.m, .int .u8 y.b0, .int .u8 y.b1, .int .u8 y.b2, .int .u8 y.i0, .int .u8 y.i1, .int .u8 y.i2] 28) = w0 at *
  go_wp2_with (first | refine wpList_load_vb (vs := [.int .i64 x.v, .int .i64 x.m, .int .u8 x.b0, .int .u8 x.b1, .int .u8 x.b2, .int .u8 x.i0, .int .u8 x.i1, .int .u8 x.i2]) rfl (.tmp 2) rfl rfl hx rfl agg_mask ?_ | refine wpList_load_vb (vs := [.int .i64 y.v, .int .i64 y.m, .int .u8 y.b0, .int .u8 y.b1, .int .u8 y.b2, .int .u8 y.i0, .int .u8 y.i1, .int .u8 y.i2]) rfl (.tmp 3) rfl rfl hy rfl agg_mask ?_)
  refine (meet_any x y _).mono ?_
  rintro e w1 ⟨rfl, hb1⟩
  have hm1 : (mcl (meetV x y)).toArray = #[.int .i64 (meetV x y).v, .int .i64 (meetV x y).m, .int .u8 (meetV x y).b0, .int .u8 (meetV x y).b1, .int .u8 (meetV x y).b2, .int .u8 (meetV x y).i0, .int .u8 (meetV x y).i1, .int .u8 (meetV x y).i2] := rfl
  rw [hm1]
  clear hm1
  generalize meetV x y = m at *
  generalize hk : meetB x y = k at *
  have Hk := Kp.mk hk
  clear hk
  have hlt0 : w.heap.size + 1 < w0.heap.size := hy.lt
  replace hx := hx.below hb1 (by omega)
  replace hy := hy.below hb1 (by omega)
  replace hB := hB.trans (hb1.mono (by omega))
  clear hlt0
  clear hb1
  go_upto_region 2 with (refine wpList_store_new (vs := [.int .i64 m.v, .int .i64 m.m, .int .u8 m.b0, .int .u8 m.b1, .int .u8 m.b2, .int .u8 m.i0, .int .u8 m.i1, .int .u8 m.i2]) rfl (.tmp 5) (.tmp 11) rfl rfl rfl rfl rfl rfl agg_mask rfl ?_; intro w2 hm hb2 hz2)
  have hlt : w.heap.size + 1 < w1.heap.size := hy.lt
  replace hy := hy.below hb2 (by omega)
  replace hB := hB.trans (hb2.mono (by omega))
  clear hb2 hz2 hx
  generalize w1.heap.size = g at *
  have hS : (fun W => Vb 28 W g [.int .i64 m.v, .int .i64 m.m, .int .u8 m.b0, .int .u8 m.b1, .int .u8 m.b2, .int .u8 m.i0, .int .u8 m.i1, .int .u8 m.i2] ∧ Vb 28 W (w.heap.size + 1) [.int .i64 y.v, .int .i64 y.m, .int .u8 y.b0, .int .u8 y.b1, .int .u8 y.b2, .int .u8 y.i0, .int .u8 y.i1, .int .u8 y.i2]) w2.drew := ⟨hm, hy⟩
  replace hB : Below w.heap.size w w2.drew := hB.drew
  cases k
  · have hcv := Kp.mk (Hno.out (by first | rfl | trivial))
    clear Hno Hyes Hk
    refine wp_region_held_drew (S := fun W => Vb 28 W g [.int .i64 m.v, .int .i64 m.m, .int .u8 m.b0, .int .u8 m.b1, .int .u8 m.b2, .int .u8 m.i0, .int .u8 m.i1, .int .u8 m.i2] ∧ Vb 28 W (w.heap.size + 1) [.int .i64 y.v, .int .i64 y.m, .int .u8 y.b0, .int .u8 y.b1, .int .u8 y.b2, .int .u8 y.i0, .int .u8 y.i1, .int .u8 y.i2]) (by kernel_rfl) hS (fun _ => ?_)
    generalize w2.drew = w3 at *
    refine takeD (i := 0) (v := .bool false) (some 13) rfl rfl (by kernel_rfl) (by kernel_rfl) (by kernel_rfl) (fun _ _ _ h => h) (Or.inl ⟨by rfl, ?_⟩) hS ?_
    · rintro w' _
      go_simp
    try simp only [Act.put, List.setIfInBounds_toArray, List.set_cons_zero, List.set_cons_succ]
    refine takeD (i := 1) (v := .bool false) (some 14) rfl rfl (by kernel_rfl) (by kernel_rfl) (by kernel_rfl) (fun _ _ _ h => h) (Or.inl ⟨by rfl, ?_⟩) hS ?_
    · rintro w' _
      go_simp
    try simp only [Act.put, List.setIfInBounds_toArray, List.set_cons_zero, List.set_cons_succ]
    refine takeD (i := 2) (v := undef) (some 15) rfl rfl (by kernel_rfl) (by kernel_rfl) (by kernel_rfl) (fun _ _ _ h => h) (Or.inr ⟨by rfl, rfl⟩) hS ?_
    try simp only [Act.put, List.setIfInBounds_toArray, List.set_cons_zero, List.set_cons_succ]
    refine takeD (i := 3) (v := undef) (some 16) rfl rfl (by kernel_rfl) (by kernel_rfl) (by kernel_rfl) (fun _ _ _ h => h) (Or.inr ⟨by rfl, rfl⟩) hS ?_
    try simp only [Act.put, List.setIfInBounds_toArray, List.set_cons_zero, List.set_cons_succ]
    refine takeD (i := 4) (v := undef) (some 17) rfl rfl (by kernel_rfl) (by kernel_rfl) (by kernel_rfl) (fun _ _ _ h => h) (Or.inr ⟨by rfl, rfl⟩) hS ?_
    try simp only [Act.put, List.setIfInBounds_toArray, List.set_cons_zero, List.set_cons_succ]
    refine takeD (i := 5) (v := undef) (some 18) rfl rfl (by kernel_rfl) (by kernel_rfl) (by kernel_rfl) (fun _ _ _ h => h) (Or.inr ⟨by rfl, rfl⟩) hS ?_
    try simp only [Act.put, List.setIfInBounds_toArray, List.set_cons_zero, List.set_cons_succ]
    refine takeD (i := 6) (v := .bool false) (some 19) rfl rfl (by kernel_rfl) (by kernel_rfl) (by kernel_rfl) (fun _ _ _ h => h) (Or.inl ⟨by rfl, ?_⟩) hS ?_
    · rintro w' _
      go_simp
    try simp only [Act.put, List.setIfInBounds_toArray, List.set_cons_zero, List.set_cons_succ]
    refine takeD (i := 7) (v := .bool false) (some 4) rfl rfl (by kernel_rfl) (by kernel_rfl) (by kernel_rfl) (fun _ _ _ h => h) (Or.inl ⟨by rfl, ?_⟩) hS ?_
    · rintro w' _
      go_simp
    try simp only [Act.put, List.setIfInBounds_toArray, List.set_cons_zero, List.set_cons_succ]
    refine wpAnyH_done (by kernel_rfl) ?_ _
    go_wp2_with fail
    rw [hcv.out]
    go_ret
    exact ⟨rfl, hB⟩
  · have hcv := Kp.mk (Hyes.out (by first | rfl | trivial))
    clear Hno Hyes Hk
    have hbe : bareV y = bareV y := rfl
    skip
    refine wp_region_held_drew (S := fun W => Vb 28 W g [.int .i64 m.v, .int .i64 m.m, .int .u8 m.b0, .int .u8 m.b1, .int .u8 m.b2, .int .u8 m.i0, .int .u8 m.i1, .int .u8 m.i2] ∧ Vb 28 W (w.heap.size + 1) [.int .i64 y.v, .int .i64 y.m, .int .u8 y.b0, .int .u8 y.b1, .int .u8 y.b2, .int .u8 y.i0, .int .u8 y.i1, .int .u8 y.i2]) (by kernel_rfl) hS (fun _ => ?_)
    generalize w2.drew = w3 at *
    refine takeD (i := 0) (v := .bool true) (some 13) rfl rfl (by kernel_rfl) (by kernel_rfl) (by kernel_rfl) (fun _ _ _ h => h) (Or.inl ⟨by rfl, ?_⟩) hS ?_
    · rintro w' _
      go_simp
    try simp only [Act.put, List.setIfInBounds_toArray, List.set_cons_zero, List.set_cons_succ]
    refine takeD (i := 1) (v := .bool true) (some 14) rfl rfl (by kernel_rfl) (by kernel_rfl) (by kernel_rfl) (fun _ _ _ h => h) (Or.inl ⟨by rfl, ?_⟩) hS ?_
    · rintro w' _
      go_simp
    try simp only [Act.put, List.setIfInBounds_toArray, List.set_cons_zero, List.set_cons_succ]
    refine takeD (i := 2) (v := .agg #[.int .i64 m.v, .int .i64 m.m, .int .u8 m.b0, .int .u8 m.b1, .int .u8 m.b2, .int .u8 m.i0, .int .u8 m.i1, .int .u8 m.i2]) (some 15) rfl rfl (by kernel_rfl) (by kernel_rfl) (by kernel_rfl) (fun _ _ _ h => h) (Or.inl ⟨by rfl, ?_⟩) hS ?_
    · rintro w' ⟨s1, s2⟩
      obtain ⟨d0, d1, d2, d3, d4, d5, d6, d7⟩ := s1.c8
      go_simp
    try simp only [Act.put, List.setIfInBounds_toArray, List.set_cons_zero, List.set_cons_succ]
    refine takeD (i := 3) (v := .agg #[.int .i64 y.v, .int .i64 y.m, .int .u8 y.b0, .int .u8 y.b1, .int .u8 y.b2, .int .u8 y.i0, .int .u8 y.i1, .int .u8 y.i2]) (some 16) rfl rfl (by kernel_rfl) (by kernel_rfl) (by kernel_rfl) (fun _ _ _ h => h) (Or.inl ⟨by rfl, ?_⟩) hS ?_
    · rintro w' ⟨s1, s2⟩
      obtain ⟨d0, d1, d2, d3, d4, d5, d6, d7⟩ := s2.c8
      go_simp
    try simp only [Act.put, List.setIfInBounds_toArray, List.set_cons_zero, List.set_cons_succ]
    refine wpAnyH_ready (rs := [4]) (by kernel_rfl) (by simp) ?_
    refine AllReadyH.cons rfl (fun K hK => ?_) AllReadyH.nil
    go_simp
    go_at_call 88
    refine (bare_any y _).mono ?_
    rintro e w4 ⟨rfl, hb4⟩
    refine hK.out _ _ (⟨hS.1.below hb4 (by have := hS.1.lt; omega), hS.2.below hb4 (by have := hS.2.lt; omega)⟩) (fun hS4 => ?_)
    clear hK K
    try simp only [Act.put, List.setIfInBounds_toArray, List.set_cons_zero, List.set_cons_succ]
    have he := Kp.mk (fun W => eq_mask m (bareV y) W)
    refine takeD (i := 5) (v := .bool (eqMB m (bareV y))) (some 18) rfl rfl (by kernel_rfl) (by kernel_rfl) (by kernel_rfl) (fun _ _ _ h => h) (Or.inl ⟨by rfl, ?_⟩) hS4 ?_
    · rintro w' _
      have he := he.out
      go_simp
    try simp only [Act.put, List.setIfInBounds_toArray, List.set_cons_zero, List.set_cons_succ]
    refine takeD (i := 6) (v := .bool (eqMB m (bareV y))) (some 19) rfl rfl (by kernel_rfl) (by kernel_rfl) (by kernel_rfl) (fun _ _ _ h => h) (Or.inl ⟨by rfl, ?_⟩) hS4 ?_
    · rintro w' _
      go_simp
    try simp only [Act.put, List.setIfInBounds_toArray, List.set_cons_zero, List.set_cons_succ]
    refine takeD (i := 7) (v := .bool (eqMB m (bareV y))) (some 4) rfl rfl (by kernel_rfl) (by kernel_rfl) (by kernel_rfl) (fun _ _ _ h => h) (Or.inl ⟨by rfl, ?_⟩) hS4 ?_
    · rintro w' _
      go_simp
    try simp only [Act.put, List.setIfInBounds_toArray, List.set_cons_zero, List.set_cons_succ]
    refine wpAnyH_done (by kernel_rfl) ?_ _
    go_wp2_with fail
    rw [hcv.out]
    go_ret
    exact ⟨rfl, hB.trans (hb4.mono (by have := hS.2.lt; omega))⟩
set_option maxRecDepth 100000 in
set_option maxHeartbeats 4000000 in
theorem fitsM_any (x : MaskV) (v p a b c : Int) (w : World) : Calls Try.prog 49 #[.agg #[.int .i64 x.v, .int .i64 x.m, .int .u8 x.b0, .int .u8 x.b1, .int .u8 x.b2, .int .u8 x.i0, .int .u8 x.i1, .int .u8 x.i2], .int .i64 v, .int .i64 p, .agg #[.int .u8 a, .int .u8 b, .int .u8 c]] w fun e w' => e = .returned (.bool (fitsM x v p a b c)) ∧ Below w.heap.size w w' := by
  have hx : Vb 28 ((w.alloc (.cells #[.int .i64 x.v, .int .i64 x.m, .int .u8 x.b0, .int .u8 x.b1, .int .u8 x.b2, .int .u8 x.i0, .int .u8 x.i1, .int .u8 x.i2] 28)).alloc (.cells #[.int .u8 a, .int .u8 b, .int .u8 c] 26)) w.heap.size [.int .i64 x.v, .int .i64 x.m, .int .u8 x.b0, .int .u8 x.b1, .int .u8 x.b2, .int .u8 x.i0, .int .u8 x.i1, .int .u8 x.i2] := (Vb.new 28 w (mcl x)).alloc _
  have hy : Vb 26 ((w.alloc (.cells #[.int .i64 x.v, .int .i64 x.m, .int .u8 x.b0, .int .u8 x.b1, .int .u8 x.b2, .int .u8 x.i0, .int .u8 x.i1, .int .u8 x.i2] 28)).alloc (.cells #[.int .u8 a, .int .u8 b, .int .u8 c] 26)) (w.heap.size + 1) [.int .u8 a, .int .u8 b, .int .u8 c] := by have := Vb.new 26 (w.alloc (.cells #[.int .i64 x.v, .int .i64 x.m, .int .u8 x.b0, .int .u8 x.b1, .int .u8 x.b2, .int .u8 x.i0, .int .u8 x.i1, .int .u8 x.i2] 28)) [.int .u8 a, .int .u8 b, .int .u8 c]; simpa [mcl] using this
  have hB := below_two w (.cells #[.int .i64 x.v, .int .i64 x.m, .int .u8 x.b0, .int .u8 x.b1, .int .u8 x.b2, .int .u8 x.i0, .int .u8 x.i1, .int .u8 x.i2] 28) (.cells #[.int .u8 a, .int .u8 b, .int .u8 c] 26)
  go_enter Try.func49, Try.ntmps49
  go_upto_region 1 with fail
  generalize (w.alloc (.cells #[.int .i64 x.v, .int .i64 x.m, .int .u8 x.b0, .int .u8 x.b1, .int .u8 x.b2, .int .u8 x.i0, .int .u8 x.i1, .int .u8 x.i2] 28)).alloc (.cells #[.int .u8 a, .int .u8 b, .int .u8 c] 26) = w0 at *
  go_upto_region 2 with (refine wpList_store_new (vs := [.int .u8 255, .int .u8 255, .int .u8 255]) rfl (.tmp 9) (.tmp 10) rfl rfl rfl rfl rfl rfl agg_header rfl ?_; intro w1 hh hb1 hz1)
  have hlt : w.heap.size + 1 < w0.heap.size := hy.lt
  replace hx := hx.below hb1 (by omega)
  replace hy := hy.below hb1 (by omega)
  replace hB := hB.trans (hb1.mono (by omega))
  clear hb1 hz1
  generalize w0.heap.size = g at *
  go_wp2_with (first | refine wpList_load_vb (vs := [.int .i64 x.v, .int .i64 x.m, .int .u8 x.b0, .int .u8 x.b1, .int .u8 x.b2, .int .u8 x.i0, .int .u8 x.i1, .int .u8 x.i2]) rfl (.tmp 4) rfl rfl hx rfl agg_mask ?_ | refine wpList_load_vb (vs := [.int .u8 255, .int .u8 255, .int .u8 255]) rfl (.tmp 9) rfl rfl hh rfl agg_header ?_ | refine wpList_load_vb (vs := [.int .u8 a, .int .u8 b, .int .u8 c]) rfl (.tmp 7) rfl rfl hy rfl agg_header ?_)
  refine (coversM_any x (fitM v p a b c) _).mono ?_
  rintro e w2 ⟨rfl, hb2⟩
  have hlt1 := hh.lt
  go_wp2_with fail
  go_ret
  exact ⟨rfl, hB.trans (hb2.mono (by omega))⟩
set_option maxRecDepth 100000 in
set_option maxHeartbeats 4000000 in
theorem onlyM_any (x : MaskV) (f b i : Int) (w : World) : Calls Try.prog 58 #[.agg #[.int .i64 x.v, .int .i64 x.m, .int .u8 x.b0, .int .u8 x.b1, .int .u8 x.b2, .int .u8 x.i0, .int .u8 x.i1, .int .u8 x.i2], .int .i64 f, .int .u8 b, .int .u8 i] w (OnlyOf x f b i w) := by
  have hx : Vb 28 ((w.alloc (.cells #[.int .i64 x.v, .int .i64 x.m, .int .u8 x.b0, .int .u8 x.b1, .int .u8 x.b2, .int .u8 x.i0, .int .u8 x.i1, .int .u8 x.i2] 28)).alloc (.cells #[.int .i64 0, .int .i64 0, .int .u8 0, .int .u8 0, .int .u8 0, .int .u8 0, .int .u8 0, .int .u8 0] 28)) w.heap.size [.int .i64 x.v, .int .i64 x.m, .int .u8 x.b0, .int .u8 x.b1, .int .u8 x.b2, .int .u8 x.i0, .int .u8 x.i1, .int .u8 x.i2] := (Vb.new 28 w (mcl x)).alloc _
  have hr : Vb 28 ((w.alloc (.cells #[.int .i64 x.v, .int .i64 x.m, .int .u8 x.b0, .int .u8 x.b1, .int .u8 x.b2, .int .u8 x.i0, .int .u8 x.i1, .int .u8 x.i2] 28)).alloc (.cells #[.int .i64 0, .int .i64 0, .int .u8 0, .int .u8 0, .int .u8 0, .int .u8 0, .int .u8 0, .int .u8 0] 28)) (w.heap.size + 1) [.int .i64 0, .int .i64 0, .int .u8 0, .int .u8 0, .int .u8 0, .int .u8 0, .int .u8 0, .int .u8 0] := by have := Vb.new 28 (w.alloc (.cells #[.int .i64 x.v, .int .i64 x.m, .int .u8 x.b0, .int .u8 x.b1, .int .u8 x.b2, .int .u8 x.i0, .int .u8 x.i1, .int .u8 x.i2] 28)) (mcl noMask); simpa [mcl, noMask] using this
  have hB := below_two w (.cells #[.int .i64 x.v, .int .i64 x.m, .int .u8 x.b0, .int .u8 x.b1, .int .u8 x.b2, .int .u8 x.i0, .int .u8 x.i1, .int .u8 x.i2] 28) (.cells #[.int .i64 0, .int .i64 0, .int .u8 0, .int .u8 0, .int .u8 0, .int .u8 0, .int .u8 0, .int .u8 0] 28)
  have Hno := Kp.mk (fun (h : ¬ (0 ≤ f ∧ f < 3)) (w' : World) (hb : Below w.heap.size w w') => OnlyOf.no (x := x) (b := b) (i := i) h hb)
  have Hyes := Kp.mk (fun (h : 0 ≤ f ∧ f < 3) (w' : World) (hb : Below w.heap.size w w') => OnlyOf.yes (x := x) (b := b) (i := i) h hb)
  generalize OnlyOf x f b i w = P at *
  go_enter Try.func58, Try.ntmps58
  go_upto_region 1 with fail
  generalize (w.alloc (.cells #[.int .i64 x.v, .int .i64 x.m, .int .u8 x.b0, .int .u8 x.b1, .int .u8 x.b2, .int .u8 x.i0, .int .u8 x.i1, .int .u8 x.i2] 28)).alloc (.cells #[.int .i64 0, .int .i64 0, .int .u8 0, .int .u8 0, .int .u8 0, .int .u8 0, .int .u8 0, .int .u8 0] 28) = w0 at *
  go_wp2_with fail
  refine (anyM_any _).mono ?_
  rintro e w1 ⟨rfl, hb1⟩
  have hlt : w.heap.size + 1 < w0.heap.size := hr.lt
  replace hx := hx.below hb1 (by omega)
  replace hr := hr.below hb1 (by omega)
  replace hB := hB.trans (hb1.mono (by omega))
  replace hlt : w.heap.size + 1 < w1.heap.size := by have := hb1.size; omega
  clear hb1
  go_upto_region 2 with (refine wpList_store_new (vs := mcl anyM) rfl (.tmp 10) (.tmp 11) rfl rfl rfl rfl rfl rfl agg_mask rfl ?_; intro w2 hm hb2 hz2)
  replace hx := hx.below hb2 (by omega)
  replace hr := hr.below hb2 (by omega)
  replace hB := hB.trans (hb2.mono (by omega))
  clear hb2 hz2
  generalize w1.heap.size = g at *
  have hm : Vb 28 w2 g [.int .i64 0, .int .i64 (-1), .int .u8 0, .int .u8 0, .int .u8 0, .int .u8 0, .int .u8 0, .int .u8 0] := hm
  by_cases c1 : f < 0
  · go_wp2_with (refine wpList_store_vb (vs := [.int .i64 0, .int .i64 0, .int .u8 0, .int .u8 0, .int .u8 0, .int .u8 0, .int .u8 0, .int .u8 0]) rfl (.tmp 8) (.tmp 18) rfl rfl rfl hr rfl agg_mask rfl ?_; intro w9 hv9 hg9 hz9)
    refine bodyPost_ret (results_pair Try.results58 _ rfl hv9 agg_mask) rfl ?_
    exact Hno.out (by omega) w9 (hB.grown hg9 (by have := hr.lt; omega) (fun k e => by simp at e; omega))
  by_cases c2 : 3 ≤ f
  · go_wp2_with (refine wpList_store_vb (vs := [.int .i64 0, .int .i64 0, .int .u8 0, .int .u8 0, .int .u8 0, .int .u8 0, .int .u8 0, .int .u8 0]) rfl (.tmp 8) (.tmp 18) rfl rfl rfl hr rfl agg_mask rfl ?_; intro w9 hv9 hg9 hz9)
    refine bodyPost_ret (results_pair Try.results58 _ rfl hv9 agg_mask) rfl ?_
    exact Hno.out (by omega) w9 (hB.grown hg9 (by have := hr.lt; omega) (fun k e => by simp at e; omega))
  by_cases f0 : f = 0
  · subst f0
    have hf := hm.free
    obtain ⟨m0, m1, m2, m3, m4, m5, m6, m7⟩ := hm.c8
    have hn : Vb 28 ((w2.setCell ⟨g, 2, none⟩ (.int .u8 b)).setCell ⟨g, 5, none⟩ (.int .u8 i)) g [.int .i64 0, .int .i64 (-1), .int .u8 b, .int .u8 0, .int .u8 0, .int .u8 i, .int .u8 0, .int .u8 0] := (hm.set 2 (.int .u8 b)).set 5 _
    have hxn := (hx.other (r := g) (by omega) 2 (.int .u8 b)).other (r := g) (by omega) 5 (.int .u8 i)
    have hrn := (hr.other (r := g) (by omega) 2 (.int .u8 b)).other (r := g) (by omega) 5 (.int .u8 i)
    have hBn := (hB.setCell (p := ⟨g, 2, none⟩) (by simp; omega) (.int .u8 b)).setCell (p := ⟨g, 5, none⟩) (by simp; omega) (.int .u8 i)
    go_upto_region 5 with fail
    clear hf m0 m1 m2 m3 m4 m5 m6 m7 hm hx hr hB
    generalize (w2.setCell ⟨g, 2, none⟩ (.int .u8 b)).setCell ⟨g, 5, none⟩ (.int .u8 i) = w3 at *
    go_wp2_with (first | refine wpList_load_vb (vs := [.int .i64 x.v, .int .i64 x.m, .int .u8 x.b0, .int .u8 x.b1, .int .u8 x.b2, .int .u8 x.i0, .int .u8 x.i1, .int .u8 x.i2]) rfl (.tmp 4) rfl rfl hxn rfl agg_mask ?_ | refine wpList_load_vb (vs := [.int .i64 0, .int .i64 (-1), .int .u8 b, .int .u8 0, .int .u8 0, .int .u8 i, .int .u8 0, .int .u8 0]) rfl (.tmp 10) rfl rfl hn rfl agg_mask ?_)
    refine (meet_any x (saysM 0 b i) _).mono ?_
    rintro e w4 ⟨rfl, hb4⟩
    have hm1 : (mcl (meetV x (saysM 0 b i))).toArray = #[.int .i64 (meetV x (saysM 0 b i)).v, .int .i64 (meetV x (saysM 0 b i)).m, .int .u8 (meetV x (saysM 0 b i)).b0, .int .u8 (meetV x (saysM 0 b i)).b1, .int .u8 (meetV x (saysM 0 b i)).b2, .int .u8 (meetV x (saysM 0 b i)).i0, .int .u8 (meetV x (saysM 0 b i)).i1, .int .u8 (meetV x (saysM 0 b i)).i2] := rfl
    rw [hm1]
    clear hm1
    have H5 := Kp.mk (Hyes.out (by omega))
    replace hrn := hrn.below hb4 hrn.lt
    replace hBn := hBn.trans (hb4.mono (by have := hn.lt; omega))
    clear hxn hn Hyes Hno hb4
    generalize meetV x (saysM 0 b i) = m at *
    generalize meetB x (saysM 0 b i) = k at *
    go_wp2_with (refine wpList_store_vb (vs := [.int .i64 m.v, .int .i64 m.m, .int .u8 m.b0, .int .u8 m.b1, .int .u8 m.b2, .int .u8 m.i0, .int .u8 m.i1, .int .u8 m.i2]) rfl (.tmp 8) (.tmp 30) rfl rfl rfl hrn rfl agg_mask rfl ?_; intro w9 hv9 hg9 hz9)
    refine bodyPost_ret (results_pair Try.results58 _ rfl hv9 agg_mask) rfl ?_
    exact H5.out w9 (hBn.grown hg9 (by have := hrn.lt; omega) (fun k e => by simp at e; omega))
  by_cases f1 : f = 1
  · subst f1
    have hf := hm.free
    obtain ⟨m0, m1, m2, m3, m4, m5, m6, m7⟩ := hm.c8
    have hn : Vb 28 ((w2.setCell ⟨g, 3, none⟩ (.int .u8 b)).setCell ⟨g, 6, none⟩ (.int .u8 i)) g [.int .i64 0, .int .i64 (-1), .int .u8 0, .int .u8 b, .int .u8 0, .int .u8 0, .int .u8 i, .int .u8 0] := (hm.set 3 (.int .u8 b)).set 6 _
    have hxn := (hx.other (r := g) (by omega) 3 (.int .u8 b)).other (r := g) (by omega) 6 (.int .u8 i)
    have hrn := (hr.other (r := g) (by omega) 3 (.int .u8 b)).other (r := g) (by omega) 6 (.int .u8 i)
    have hBn := (hB.setCell (p := ⟨g, 3, none⟩) (by simp; omega) (.int .u8 b)).setCell (p := ⟨g, 6, none⟩) (by simp; omega) (.int .u8 i)
    go_upto_region 5 with fail
    clear hf m0 m1 m2 m3 m4 m5 m6 m7 hm hx hr hB
    generalize (w2.setCell ⟨g, 3, none⟩ (.int .u8 b)).setCell ⟨g, 6, none⟩ (.int .u8 i) = w3 at *
    go_wp2_with (first | refine wpList_load_vb (vs := [.int .i64 x.v, .int .i64 x.m, .int .u8 x.b0, .int .u8 x.b1, .int .u8 x.b2, .int .u8 x.i0, .int .u8 x.i1, .int .u8 x.i2]) rfl (.tmp 4) rfl rfl hxn rfl agg_mask ?_ | refine wpList_load_vb (vs := [.int .i64 0, .int .i64 (-1), .int .u8 0, .int .u8 b, .int .u8 0, .int .u8 0, .int .u8 i, .int .u8 0]) rfl (.tmp 10) rfl rfl hn rfl agg_mask ?_)
    refine (meet_any x (saysM 1 b i) _).mono ?_
    rintro e w4 ⟨rfl, hb4⟩
    have hm1 : (mcl (meetV x (saysM 1 b i))).toArray = #[.int .i64 (meetV x (saysM 1 b i)).v, .int .i64 (meetV x (saysM 1 b i)).m, .int .u8 (meetV x (saysM 1 b i)).b0, .int .u8 (meetV x (saysM 1 b i)).b1, .int .u8 (meetV x (saysM 1 b i)).b2, .int .u8 (meetV x (saysM 1 b i)).i0, .int .u8 (meetV x (saysM 1 b i)).i1, .int .u8 (meetV x (saysM 1 b i)).i2] := rfl
    rw [hm1]
    clear hm1
    have H5 := Kp.mk (Hyes.out (by omega))
    replace hrn := hrn.below hb4 hrn.lt
    replace hBn := hBn.trans (hb4.mono (by have := hn.lt; omega))
    clear hxn hn Hyes Hno hb4
    generalize meetV x (saysM 1 b i) = m at *
    generalize meetB x (saysM 1 b i) = k at *
    go_wp2_with (refine wpList_store_vb (vs := [.int .i64 m.v, .int .i64 m.m, .int .u8 m.b0, .int .u8 m.b1, .int .u8 m.b2, .int .u8 m.i0, .int .u8 m.i1, .int .u8 m.i2]) rfl (.tmp 8) (.tmp 30) rfl rfl rfl hrn rfl agg_mask rfl ?_; intro w9 hv9 hg9 hz9)
    refine bodyPost_ret (results_pair Try.results58 _ rfl hv9 agg_mask) rfl ?_
    exact H5.out w9 (hBn.grown hg9 (by have := hrn.lt; omega) (fun k e => by simp at e; omega))
  obtain rfl : f = 2 := by omega
  have hf := hm.free
  obtain ⟨m0, m1, m2, m3, m4, m5, m6, m7⟩ := hm.c8
  have hn : Vb 28 ((w2.setCell ⟨g, 4, none⟩ (.int .u8 b)).setCell ⟨g, 7, none⟩ (.int .u8 i)) g [.int .i64 0, .int .i64 (-1), .int .u8 0, .int .u8 0, .int .u8 b, .int .u8 0, .int .u8 0, .int .u8 i] := (hm.set 4 (.int .u8 b)).set 7 _
  have hxn := (hx.other (r := g) (by omega) 4 (.int .u8 b)).other (r := g) (by omega) 7 (.int .u8 i)
  have hrn := (hr.other (r := g) (by omega) 4 (.int .u8 b)).other (r := g) (by omega) 7 (.int .u8 i)
  have hBn := (hB.setCell (p := ⟨g, 4, none⟩) (by simp; omega) (.int .u8 b)).setCell (p := ⟨g, 7, none⟩) (by simp; omega) (.int .u8 i)
  go_upto_region 5 with fail
  clear hf m0 m1 m2 m3 m4 m5 m6 m7 hm hx hr hB
  generalize (w2.setCell ⟨g, 4, none⟩ (.int .u8 b)).setCell ⟨g, 7, none⟩ (.int .u8 i) = w3 at *
  go_wp2_with (first | refine wpList_load_vb (vs := [.int .i64 x.v, .int .i64 x.m, .int .u8 x.b0, .int .u8 x.b1, .int .u8 x.b2, .int .u8 x.i0, .int .u8 x.i1, .int .u8 x.i2]) rfl (.tmp 4) rfl rfl hxn rfl agg_mask ?_ | refine wpList_load_vb (vs := [.int .i64 0, .int .i64 (-1), .int .u8 0, .int .u8 0, .int .u8 b, .int .u8 0, .int .u8 0, .int .u8 i]) rfl (.tmp 10) rfl rfl hn rfl agg_mask ?_)
  refine (meet_any x (saysM 2 b i) _).mono ?_
  rintro e w4 ⟨rfl, hb4⟩
  have hm1 : (mcl (meetV x (saysM 2 b i))).toArray = #[.int .i64 (meetV x (saysM 2 b i)).v, .int .i64 (meetV x (saysM 2 b i)).m, .int .u8 (meetV x (saysM 2 b i)).b0, .int .u8 (meetV x (saysM 2 b i)).b1, .int .u8 (meetV x (saysM 2 b i)).b2, .int .u8 (meetV x (saysM 2 b i)).i0, .int .u8 (meetV x (saysM 2 b i)).i1, .int .u8 (meetV x (saysM 2 b i)).i2] := rfl
  rw [hm1]
  clear hm1
  have H5 := Kp.mk (Hyes.out (by omega))
  replace hrn := hrn.below hb4 hrn.lt
  replace hBn := hBn.trans (hb4.mono (by have := hn.lt; omega))
  clear hxn hn Hyes Hno hb4
  generalize meetV x (saysM 2 b i) = m at *
  generalize meetB x (saysM 2 b i) = k at *
  go_wp2_with (refine wpList_store_vb (vs := [.int .i64 m.v, .int .i64 m.m, .int .u8 m.b0, .int .u8 m.b1, .int .u8 m.b2, .int .u8 m.i0, .int .u8 m.i1, .int .u8 m.i2]) rfl (.tmp 8) (.tmp 30) rfl rfl rfl hrn rfl agg_mask rfl ?_; intro w9 hv9 hg9 hz9)
  refine bodyPost_ret (results_pair Try.results58 _ rfl hv9 agg_mask) rfl ?_
  exact H5.out w9 (hBn.grown hg9 (by have := hrn.lt; omega) (fun k e => by simp at e; omega))

end Go.Proofs.Ytcolklkjaifplaa.Oct
