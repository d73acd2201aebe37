/- Contracts of layer 9's statements: made. -/
import Derived.Test.YtlambnlehomkdaaTabQ
import Derived.Test.YtlambnlehomkdaaBring
import Derived.LoopN
import Derived.StillTailTactics
namespace Go.Proofs.Ytlambnlehomkdaa.Oct
open Go.RowKit
set_option linter.unusedVariables false
set_option linter.unusedSimpArgs false

/-- The mask of a rule that may be. -/
def madeM (x : MaskV) : MaskV := ⟨Ser.bringP x.v 3, Ser.bringP x.m 6 - 1, bits .and .u8 x.b0 3, bits .and .u8 x.b1 3, bits .and .u8 x.b2 3, bits .and .u8 x.i0 (bits .and .u8 x.b0 3), bits .and .u8 x.i1 (bits .and .u8 x.b1 3), bits .and .u8 x.i2 (bits .and .u8 x.b2 3)⟩
/-- A rule that may be, out of any. -/
def madeR (r : RuleV) : RuleV := if r.k.tmod 4 = 0 then ctlO (Ser.bringP r.to 7) (Ser.bringP r.po 5) else datO (Ser.bringP r.pr 4) (madeM r.x) (Ser.bringP r.po 5)
set_option maxRecDepth 100000 in
set_option maxHeartbeats 8000000 in
theorem made_any (x : It) (w : World) : Calls Try.prog 27 #[.agg (ics x).toArray] w fun e w' => ∃ z : It, z.r = madeR x.r ∧ e = .returned (.agg (ics z).toArray) ∧ Ob w' z ∧ Fre w.heap.size z ∧ Below w.heap.size w w' := by
  have hx : Vb 36 ((w.alloc (.cells #[.int .i64 x.r.k, .int .i64 x.r.pr, .int .i64 x.r.to, .int .i64 x.r.po, .int .i64 x.r.x.v, .int .i64 x.r.x.m, .int .u8 x.r.x.b0, .int .u8 x.r.x.b1, .int .u8 x.r.x.b2, .int .u8 x.r.x.i0, .int .u8 x.r.x.i1, .int .u8 x.r.x.i2, .slice x.A x.r.os.length x.c] 36)).alloc (.cells #[.int .i64 0, .int .i64 0, .int .i64 0, .int .i64 0, .int .i64 0, .int .i64 0, .int .u8 0, .int .u8 0, .int .u8 0, .int .u8 0, .int .u8 0, .int .u8 0, .slice none 0 0] 36)) w.heap.size [.int .i64 x.r.k, .int .i64 x.r.pr, .int .i64 x.r.to, .int .i64 x.r.po, .int .i64 x.r.x.v, .int .i64 x.r.x.m, .int .u8 x.r.x.b0, .int .u8 x.r.x.b1, .int .u8 x.r.x.b2, .int .u8 x.r.x.i0, .int .u8 x.r.x.i1, .int .u8 x.r.x.i2, .slice x.A x.r.os.length x.c] := (Vb.new 36 w [.int .i64 x.r.k, .int .i64 x.r.pr, .int .i64 x.r.to, .int .i64 x.r.po, .int .i64 x.r.x.v, .int .i64 x.r.x.m, .int .u8 x.r.x.b0, .int .u8 x.r.x.b1, .int .u8 x.r.x.b2, .int .u8 x.r.x.i0, .int .u8 x.r.x.i1, .int .u8 x.r.x.i2, .slice x.A x.r.os.length x.c]).alloc _
  have hr : Vb 36 ((w.alloc (.cells #[.int .i64 x.r.k, .int .i64 x.r.pr, .int .i64 x.r.to, .int .i64 x.r.po, .int .i64 x.r.x.v, .int .i64 x.r.x.m, .int .u8 x.r.x.b0, .int .u8 x.r.x.b1, .int .u8 x.r.x.b2, .int .u8 x.r.x.i0, .int .u8 x.r.x.i1, .int .u8 x.r.x.i2, .slice x.A x.r.os.length x.c] 36)).alloc (.cells #[.int .i64 0, .int .i64 0, .int .i64 0, .int .i64 0, .int .i64 0, .int .i64 0, .int .u8 0, .int .u8 0, .int .u8 0, .int .u8 0, .int .u8 0, .int .u8 0, .slice none 0 0] 36)) (w.heap.size + 1) [.int .i64 0, .int .i64 0, .int .i64 0, .int .i64 0, .int .i64 0, .int .i64 0, .int .u8 0, .int .u8 0, .int .u8 0, .int .u8 0, .int .u8 0, .int .u8 0, .slice none 0 0] := by have := Vb.new 36 (w.alloc (.cells #[.int .i64 x.r.k, .int .i64 x.r.pr, .int .i64 x.r.to, .int .i64 x.r.po, .int .i64 x.r.x.v, .int .i64 x.r.x.m, .int .u8 x.r.x.b0, .int .u8 x.r.x.b1, .int .u8 x.r.x.b2, .int .u8 x.r.x.i0, .int .u8 x.r.x.i1, .int .u8 x.r.x.i2, .slice x.A x.r.os.length x.c] 36)) [.int .i64 0, .int .i64 0, .int .i64 0, .int .i64 0, .int .i64 0, .int .i64 0, .int .u8 0, .int .u8 0, .int .u8 0, .int .u8 0, .int .u8 0, .int .u8 0, .slice none 0 0]; simpa using this
  have hB := below_two w (.cells #[.int .i64 x.r.k, .int .i64 x.r.pr, .int .i64 x.r.to, .int .i64 x.r.po, .int .i64 x.r.x.v, .int .i64 x.r.x.m, .int .u8 x.r.x.b0, .int .u8 x.r.x.b1, .int .u8 x.r.x.b2, .int .u8 x.r.x.i0, .int .u8 x.r.x.i1, .int .u8 x.r.x.i2, .slice x.A x.r.os.length x.c] 36) (.cells #[.int .i64 0, .int .i64 0, .int .i64 0, .int .i64 0, .int .i64 0, .int .i64 0, .int .u8 0, .int .u8 0, .int .u8 0, .int .u8 0, .int .u8 0, .int .u8 0, .slice none 0 0] 36)
  rw [show (ics x).toArray = #[.int .i64 x.r.k, .int .i64 x.r.pr, .int .i64 x.r.to, .int .i64 x.r.po, .int .i64 x.r.x.v, .int .i64 x.r.x.m, .int .u8 x.r.x.b0, .int .u8 x.r.x.b1, .int .u8 x.r.x.b2, .int .u8 x.r.x.i0, .int .u8 x.r.x.i1, .int .u8 x.r.x.i2, .slice x.A x.r.os.length x.c] from rfl]
  have d0 := hx.cell 0 rfl
  go_enter Try.func27, Try.ntmps27
  go_upto_region 1 with fail
  generalize (w.alloc (.cells #[.int .i64 x.r.k, .int .i64 x.r.pr, .int .i64 x.r.to, .int .i64 x.r.po, .int .i64 x.r.x.v, .int .i64 x.r.x.m, .int .u8 x.r.x.b0, .int .u8 x.r.x.b1, .int .u8 x.r.x.b2, .int .u8 x.r.x.i0, .int .u8 x.r.x.i1, .int .u8 x.r.x.i2, .slice x.A x.r.os.length x.c] 36)).alloc (.cells #[.int .i64 0, .int .i64 0, .int .i64 0, .int .i64 0, .int .i64 0, .int .i64 0, .int .u8 0, .int .u8 0, .int .u8 0, .int .u8 0, .int .u8 0, .int .u8 0, .slice none 0 0] 36) = w0 at *
  by_cases hk : x.r.k.tmod 4 = 0
  · have HM := Kp.mk (show madeR x.r = _ from if_pos hk)
    have hk2 : (x.r.k.tmod 4 == 0) = true := by simpa using hk
    clear hk
    go_upto_region 2 with fail
    clear d0 hk2
    have hS0 : (fun W => Vb 36 W w.heap.size [.int .i64 x.r.k, .int .i64 x.r.pr, .int .i64 x.r.to, .int .i64 x.r.po, .int .i64 x.r.x.v, .int .i64 x.r.x.m, .int .u8 x.r.x.b0, .int .u8 x.r.x.b1, .int .u8 x.r.x.b2, .int .u8 x.r.x.i0, .int .u8 x.r.x.i1, .int .u8 x.r.x.i2, .slice x.A x.r.os.length x.c]) w0.drew := hx
    have hr0 : Vb 36 w0.drew (w.heap.size + 1) [.int .i64 0, .int .i64 0, .int .i64 0, .int .i64 0, .int .i64 0, .int .i64 0, .int .u8 0, .int .u8 0, .int .u8 0, .int .u8 0, .int .u8 0, .int .u8 0, .slice none 0 0] := hr
    have hB0 := hB.drew
    refine wp_region_held_drew (S := fun W => Vb 36 W w.heap.size [.int .i64 x.r.k, .int .i64 x.r.pr, .int .i64 x.r.to, .int .i64 x.r.po, .int .i64 x.r.x.v, .int .i64 x.r.x.m, .int .u8 x.r.x.b0, .int .u8 x.r.x.b1, .int .u8 x.r.x.b2, .int .u8 x.r.x.i0, .int .u8 x.r.x.i1, .int .u8 x.r.x.i2, .slice x.A x.r.os.length x.c]) (by kernel_rfl) hS0 (fun _ => ?_)
    clear hx hr hB
    generalize w0.drew = u0 at *
    refine takeD (i := 0) (v := .pointer (some ⟨w.heap.size, 2, none⟩)) (some 9) rfl rfl (by kernel_rfl) (by kernel_rfl) (by kernel_rfl) (fun _ _ _ h => h) (Or.inl ⟨by rfl, ?_⟩) hS0 ?_
    · rintro w' _
      go_simp
    try simp only [Act.put, List.setIfInBounds_toArray, List.set_cons_zero, List.set_cons_succ]
    refine takeD (i := 1) (v := .int .i64 x.r.to) (some 10) rfl rfl (by kernel_rfl) (by kernel_rfl) (by kernel_rfl) (fun _ _ _ h => h) (Or.inl ⟨by rfl, ?_⟩) hS0 ?_
    · rintro w' s0
      obtain ⟨d0, d1, d2, d3, d4, d5, d6, d7, d8, d9, d10, d11, d12⟩ := s0.c13
      go_simp
    try simp only [Act.put, List.setIfInBounds_toArray, List.set_cons_zero, List.set_cons_succ]
    refine takeD (i := 3) (v := .pointer (some ⟨w.heap.size, 3, none⟩)) (some 12) rfl rfl (by kernel_rfl) (by kernel_rfl) (by kernel_rfl) (fun _ _ _ h => h) (Or.inl ⟨by rfl, ?_⟩) hS0 ?_
    · rintro w' _
      go_simp
    try simp only [Act.put, List.setIfInBounds_toArray, List.set_cons_zero, List.set_cons_succ]
    refine takeD (i := 4) (v := .int .i64 x.r.po) (some 13) rfl rfl (by kernel_rfl) (by kernel_rfl) (by kernel_rfl) (fun _ _ _ h => h) (Or.inl ⟨by rfl, ?_⟩) hS0 ?_
    · rintro w' s0
      obtain ⟨d0, d1, d2, d3, d4, d5, d6, d7, d8, d9, d10, d11, d12⟩ := s0.c13
      go_simp
    try simp only [Act.put, List.setIfInBounds_toArray, List.set_cons_zero, List.set_cons_succ]
    refine wpAnyH_ready (rs := [2]) (by kernel_rfl) (by simp) ?_
    refine AllReadyH.cons rfl (fun K hK => ?_) AllReadyH.nil
    try rw [if_pos (by rfl)]
    go_simp
    go_at_call 33
    refine (Ser.bring_any _ _ _ (by omega) (by omega)).mono ?_
    rintro e v9 ⟨rfl, rfl⟩
    refine hK.out _ _ hS0 (fun _ => ?_)
    clear hK K
    try simp only [Act.put, List.setIfInBounds_toArray, List.set_cons_zero, List.set_cons_succ]
    refine wpAnyH_ready (rs := [5]) (by kernel_rfl) (by simp) ?_
    refine AllReadyH.cons rfl (fun K hK => ?_) AllReadyH.nil
    try rw [if_pos (by rfl)]
    go_simp
    go_at_call 33
    refine (Ser.bring_any _ _ _ (by omega) (by omega)).mono ?_
    rintro e v9 ⟨rfl, rfl⟩
    refine hK.out _ _ hS0 (fun _ => ?_)
    clear hK K
    try simp only [Act.put, List.setIfInBounds_toArray, List.set_cons_zero, List.set_cons_succ]
    refine wpAnyH_ready (rs := [6]) (by kernel_rfl) (by simp) ?_
    refine AllReadyH.cons rfl (fun K hK => ?_) AllReadyH.nil
    try rw [if_pos (by rfl)]
    go_simp
    go_at_call 38
    refine (control_law _ _ _).mono ?_
    rintro e u6 ⟨z, hzr, rfl, hzo, hzf, hb6⟩
    replace hzr := Kp.mk hzr
    have hS6 := Vb.below hS0 hb6 (Vb.lt hS0)
    have hr6 := hr0.below hb6 hr0.lt
    have hB6 := hB0.trans (hb6.mono hB0.size)
    have hzf2 := Kp.mk (show Fre w.heap.size z from fun hn a e => by have := hzf hn a e; have := hB0.size; omega)
    refine hK.out _ _ hS6 (fun _ => ?_)
    clear hK K hb6 hzf
    try simp only [Act.put, List.setIfInBounds_toArray, List.set_cons_zero, List.set_cons_succ]
    refine wpAnyH_ready (rs := [7]) (by kernel_rfl) (by simp) ?_
    refine AllReadyH.cons rfl (fun K hK => ?_) AllReadyH.nil
    try rw [if_pos (by rfl)]
    refine wp_store_vb' (T := 36) (vs := ics z) none rfl (.tmp 2) (.tmp 15) rfl rfl rfl hr6 rfl agg_rule rfl ?_
    intro v7 hn7 hg7 hz7
    have hS7 := Vb.grown hS6 hg7 (by omega)
    refine hK.out _ _ hS7 (fun _ => ?_)
    clear hK K
    try simp only [Act.put, List.setIfInBounds_toArray, List.set_cons_zero, List.set_cons_succ]
    refine wpAnyH_done (by kernel_rfl) ?_ _
    go_wp2_with fail
    refine bodyPost_ret (results_one Try.results27 _ rfl hn7 agg_rule) rfl ?_
    exact ⟨z, hzr.out.trans HM.out.symm, rfl, hzo.vb hr6 (by decide) hg7, hzf2.out, hB6.grown hg7 hB6.size (fun k e => by simp at e; omega)⟩
  have HM := Kp.mk (show madeR x.r = _ from if_neg hk)
  have hk2 : (x.r.k.tmod 4 == 0) = false := by simpa using hk
  clear hk
  go_upto_region 3 with fail
  clear d0 hk2
  have hS0 : (fun W => Vb 36 W w.heap.size [.int .i64 x.r.k, .int .i64 x.r.pr, .int .i64 x.r.to, .int .i64 x.r.po, .int .i64 x.r.x.v, .int .i64 x.r.x.m, .int .u8 x.r.x.b0, .int .u8 x.r.x.b1, .int .u8 x.r.x.b2, .int .u8 x.r.x.i0, .int .u8 x.r.x.i1, .int .u8 x.r.x.i2, .slice x.A x.r.os.length x.c]) w0.drew := hx
  have hr0 : Vb 36 w0.drew (w.heap.size + 1) [.int .i64 0, .int .i64 0, .int .i64 0, .int .i64 0, .int .i64 0, .int .i64 0, .int .u8 0, .int .u8 0, .int .u8 0, .int .u8 0, .int .u8 0, .int .u8 0, .slice none 0 0] := hr
  have hB0 := hB.drew
  have hw0 : w.heap.size + 2 ≤ w0.drew.heap.size := by have := hr.lt; show _ ≤ w0.heap.size; omega
  have bd := Ser.bringP_bd x.r.x.m 6 (by omega)
  have FW := Kp.mk (show IntKind.i64.wrap (Ser.bringP x.r.x.m 6 - 1) = Ser.bringP x.r.x.m 6 - 1 from IntWalk.i64_in _ (by omega))
  clear bd
  go_cut [3] from 16 (fun v wx => ∃ g, v = .pointer (some ⟨g, 0, none⟩) ∧ w.heap.size + 2 ≤ g ∧ Vb 36 wx w.heap.size [.int .i64 x.r.k, .int .i64 x.r.pr, .int .i64 x.r.to, .int .i64 x.r.po, .int .i64 x.r.x.v, .int .i64 x.r.x.m, .int .u8 x.r.x.b0, .int .u8 x.r.x.b1, .int .u8 x.r.x.b2, .int .u8 x.r.x.i0, .int .u8 x.r.x.i1, .int .u8 x.r.x.i2, .slice x.A x.r.os.length x.c] ∧ Vb 36 wx (w.heap.size + 1) [.int .i64 0, .int .i64 0, .int .i64 0, .int .i64 0, .int .i64 0, .int .i64 0, .int .u8 0, .int .u8 0, .int .u8 0, .int .u8 0, .int .u8 0, .int .u8 0, .slice none 0 0] ∧ Vb 33 wx g [.int .i64 (Ser.bringP x.r.x.v 3), .int .i64 (Ser.bringP x.r.x.m 6 - 1), .int .u8 0, .int .u8 0, .int .u8 0, .int .u8 0, .int .u8 0, .int .u8 0] ∧ Below w.heap.size w wx)
  case first =>
    refine wp_region_held_drew (S := fun W => Vb 36 W w.heap.size [.int .i64 x.r.k, .int .i64 x.r.pr, .int .i64 x.r.to, .int .i64 x.r.po, .int .i64 x.r.x.v, .int .i64 x.r.x.m, .int .u8 x.r.x.b0, .int .u8 x.r.x.b1, .int .u8 x.r.x.b2, .int .u8 x.r.x.i0, .int .u8 x.r.x.i1, .int .u8 x.r.x.i2, .slice x.A x.r.os.length x.c]) (by kernel_rfl) hS0 (fun _ => ?_)
    clear hx hr hB
    generalize w0.drew = u0 at *
    refine takeD (i := 0) (v := .pointer (some ⟨w.heap.size, 4, none⟩)) (some 16) rfl rfl (by kernel_rfl) (by kernel_rfl) (by kernel_rfl) (fun _ _ _ h => h) (Or.inl ⟨by rfl, ?_⟩) hS0 ?_
    · rintro w' _
      go_simp
    try simp only [Act.put, List.setIfInBounds_toArray, List.set_cons_zero, List.set_cons_succ]
    refine takeD (i := 1) (v := .pointer (some ⟨w.heap.size, 4, none⟩)) (some 17) rfl rfl (by kernel_rfl) (by kernel_rfl) (by kernel_rfl) (fun _ _ _ h => h) (Or.inl ⟨by rfl, ?_⟩) hS0 ?_
    · rintro w' _
      go_simp
    try simp only [Act.put, List.setIfInBounds_toArray, List.set_cons_zero, List.set_cons_succ]
    refine takeD (i := 2) (v := .int .i64 x.r.x.v) (some 18) rfl rfl (by kernel_rfl) (by kernel_rfl) (by kernel_rfl) (fun _ _ _ h => h) (Or.inl ⟨by rfl, ?_⟩) hS0 ?_
    · rintro w' s0
      obtain ⟨d0, d1, d2, d3, d4, d5, d6, d7, d8, d9, d10, d11, d12⟩ := s0.c13
      go_simp
    try simp only [Act.put, List.setIfInBounds_toArray, List.set_cons_zero, List.set_cons_succ]
    refine takeD (i := 4) (v := .pointer (some ⟨w.heap.size, 4, none⟩)) (some 20) rfl rfl (by kernel_rfl) (by kernel_rfl) (by kernel_rfl) (fun _ _ _ h => h) (Or.inl ⟨by rfl, ?_⟩) hS0 ?_
    · rintro w' _
      go_simp
    try simp only [Act.put, List.setIfInBounds_toArray, List.set_cons_zero, List.set_cons_succ]
    refine takeD (i := 5) (v := .pointer (some ⟨w.heap.size, 5, none⟩)) (some 21) rfl rfl (by kernel_rfl) (by kernel_rfl) (by kernel_rfl) (fun _ _ _ h => h) (Or.inl ⟨by rfl, ?_⟩) hS0 ?_
    · rintro w' _
      go_simp
    try simp only [Act.put, List.setIfInBounds_toArray, List.set_cons_zero, List.set_cons_succ]
    refine takeD (i := 6) (v := .int .i64 x.r.x.m) (some 22) rfl rfl (by kernel_rfl) (by kernel_rfl) (by kernel_rfl) (fun _ _ _ h => h) (Or.inl ⟨by rfl, ?_⟩) hS0 ?_
    · rintro w' s0
      obtain ⟨d0, d1, d2, d3, d4, d5, d6, d7, d8, d9, d10, d11, d12⟩ := s0.c13
      go_simp
    try simp only [Act.put, List.setIfInBounds_toArray, List.set_cons_zero, List.set_cons_succ]
    refine wpAnyH_ready (rs := [3, 10]) (by kernel_rfl) (by simp) ?_
    refine AllReadyH.cons rfl (fun K hK => ?_) (AllReadyH.cons rfl (fun K hK => ?_) AllReadyH.nil)
    · try rw [if_pos (by rfl)]
      go_simp
      go_at_call 33
      refine (Ser.bring_any _ _ _ (by omega) (by omega)).mono ?_
      rintro e v9 ⟨rfl, rfl⟩
      refine hK.out _ _ hS0 (fun _ => ?_)
      clear hK K
      try simp only [Act.put, List.setIfInBounds_toArray, List.set_cons_zero, List.set_cons_succ]
      refine wpAnyH_ready (rs := [7, 10]) (by kernel_rfl) (by simp) ?_
      refine AllReadyH.cons rfl (fun K hK => ?_) (AllReadyH.cons rfl (fun K hK => ?_) AllReadyH.nil)
      · try rw [if_pos (by rfl)]
        go_simp
        go_at_call 33
        refine (Ser.bring_any _ _ _ (by omega) (by omega)).mono ?_
        rintro e v9 ⟨rfl, rfl⟩
        refine hK.out _ _ hS0 (fun _ => ?_)
        clear hK K
        try simp only [Act.put, List.setIfInBounds_toArray, List.set_cons_zero, List.set_cons_succ]
        refine takeD (i := 8) (v := .int .i64 (Ser.bringP x.r.x.m 6 - 1)) (some 24) rfl rfl (by kernel_rfl) (by kernel_rfl) (by kernel_rfl) (fun _ _ _ h => h) (Or.inl ⟨by rfl, ?_⟩) hS0 ?_
        · rintro w' _
          have fw := FW.out
          go_simp
        try simp only [Act.put, List.setIfInBounds_toArray, List.set_cons_zero, List.set_cons_succ]
        refine takeD (i := 9) (v := .agg #[.int .i64 (Ser.bringP x.r.x.v 3), .int .i64 (Ser.bringP x.r.x.m 6 - 1), .int .u8 0, .int .u8 0, .int .u8 0, .int .u8 0, .int .u8 0, .int .u8 0]) (some 25) rfl rfl (by kernel_rfl) (by kernel_rfl) (by kernel_rfl) (fun _ _ _ h => h) (Or.inl ⟨by rfl, ?_⟩) hS0 ?_
        · rintro w' _
          go_simp
        try simp only [Act.put, List.setIfInBounds_toArray, List.set_cons_zero, List.set_cons_succ]
        refine wpAnyH_ready (rs := [10]) (by kernel_rfl) (by simp) ?_
        refine AllReadyH.cons rfl (fun K hK => ?_) AllReadyH.nil
        · try rw [if_pos (by rfl)]
          have hba := below_alloc u0 (.cells #[.int .i64 0, .int .i64 0, .int .u8 0, .int .u8 0, .int .u8 0, .int .u8 0, .int .u8 0, .int .u8 0] 33)
          have hma := Vb.new 33 u0 [.int .i64 0, .int .i64 0, .int .u8 0, .int .u8 0, .int .u8 0, .int .u8 0, .int .u8 0, .int .u8 0]
          have hSa := Vb.alloc hS0 (.cells #[.int .i64 0, .int .i64 0, .int .u8 0, .int .u8 0, .int .u8 0, .int .u8 0, .int .u8 0, .int .u8 0] 33)
          have hra := hr0.alloc (.cells #[.int .i64 0, .int .i64 0, .int .u8 0, .int .u8 0, .int .u8 0, .int .u8 0, .int .u8 0, .int .u8 0] 33)
          have hBa := hB0.trans (hba.mono hB0.size)
          go_simp
          refine hK.out _ _ hSa (fun _ => ?_)
          clear hK K hba
          try simp only [Act.put, List.setIfInBounds_toArray, List.set_cons_zero, List.set_cons_succ]
          generalize hua : u0.alloc (.cells #[.int .i64 0, .int .i64 0, .int .u8 0, .int .u8 0, .int .u8 0, .int .u8 0, .int .u8 0, .int .u8 0] 33) = ua at *
          clear hua
          obtain ⟨g3, hgg⟩ : ∃ g3, g3 = u0.heap.size := ⟨_, rfl⟩
          rw [← hgg] at hma ⊢
          have hg3 : w.heap.size + 2 ≤ g3 := by omega
          clear hgg
          refine wpAnyH_ready (rs := [11]) (by kernel_rfl) (by simp) ?_
          refine AllReadyH.cons rfl (fun K hK => ?_) AllReadyH.nil
          try rw [if_pos (by rfl)]
          refine wp_store_vb' (T := 33) (vs := [.int .i64 (Ser.bringP x.r.x.v 3), .int .i64 (Ser.bringP x.r.x.m 6 - 1), .int .u8 0, .int .u8 0, .int .u8 0, .int .u8 0, .int .u8 0, .int .u8 0]) none rfl (.tmp 3) (.tmp 25) rfl rfl rfl hma rfl agg_mask rfl ?_
          intro v7 hn7 hg7 hz7
          refine hK.out _ _ (Vb.grown hSa hg7 (by omega)) (fun _ => ?_)
          clear hK K
          try simp only [Act.put, List.setIfInBounds_toArray, List.set_cons_zero, List.set_cons_succ]
          refine wpAnyH_done (by kernel_rfl) ?_ _
          go_wp2_with fail
          go_meet
          case rel => exact ⟨g3, rfl, hg3, Vb.grown hSa hg7 (by omega), Vb.grown hra hg7 (by omega), hn7, hBa.grown hg7 hBa.size (fun k e => by simp at e; omega)⟩
      · try rw [if_pos (by rfl)]
        have hba := below_alloc u0 (.cells #[.int .i64 0, .int .i64 0, .int .u8 0, .int .u8 0, .int .u8 0, .int .u8 0, .int .u8 0, .int .u8 0] 33)
        have hma := Vb.new 33 u0 [.int .i64 0, .int .i64 0, .int .u8 0, .int .u8 0, .int .u8 0, .int .u8 0, .int .u8 0, .int .u8 0]
        have hSa := Vb.alloc hS0 (.cells #[.int .i64 0, .int .i64 0, .int .u8 0, .int .u8 0, .int .u8 0, .int .u8 0, .int .u8 0, .int .u8 0] 33)
        have hra := hr0.alloc (.cells #[.int .i64 0, .int .i64 0, .int .u8 0, .int .u8 0, .int .u8 0, .int .u8 0, .int .u8 0, .int .u8 0] 33)
        have hBa := hB0.trans (hba.mono hB0.size)
        go_simp
        refine hK.out _ _ hSa (fun _ => ?_)
        clear hK K hba
        try simp only [Act.put, List.setIfInBounds_toArray, List.set_cons_zero, List.set_cons_succ]
        generalize hua : u0.alloc (.cells #[.int .i64 0, .int .i64 0, .int .u8 0, .int .u8 0, .int .u8 0, .int .u8 0, .int .u8 0, .int .u8 0] 33) = ua at *
        clear hua
        obtain ⟨g3, hgg⟩ : ∃ g3, g3 = u0.heap.size := ⟨_, rfl⟩
        rw [← hgg] at hma ⊢
        have hg3 : w.heap.size + 2 ≤ g3 := by omega
        clear hgg
        refine wpAnyH_ready (rs := [7]) (by kernel_rfl) (by simp) ?_
        refine AllReadyH.cons rfl (fun K hK => ?_) AllReadyH.nil
        · try rw [if_pos (by rfl)]
          go_simp
          go_at_call 33
          refine (Ser.bring_any _ _ _ (by omega) (by omega)).mono ?_
          rintro e v9 ⟨rfl, rfl⟩
          refine hK.out _ _ hSa (fun _ => ?_)
          clear hK K
          try simp only [Act.put, List.setIfInBounds_toArray, List.set_cons_zero, List.set_cons_succ]
          refine takeD (i := 8) (v := .int .i64 (Ser.bringP x.r.x.m 6 - 1)) (some 24) rfl rfl (by kernel_rfl) (by kernel_rfl) (by kernel_rfl) (fun _ _ _ h => h) (Or.inl ⟨by rfl, ?_⟩) hSa ?_
          · rintro w' _
            have fw := FW.out
            go_simp
          try simp only [Act.put, List.setIfInBounds_toArray, List.set_cons_zero, List.set_cons_succ]
          refine takeD (i := 9) (v := .agg #[.int .i64 (Ser.bringP x.r.x.v 3), .int .i64 (Ser.bringP x.r.x.m 6 - 1), .int .u8 0, .int .u8 0, .int .u8 0, .int .u8 0, .int .u8 0, .int .u8 0]) (some 25) rfl rfl (by kernel_rfl) (by kernel_rfl) (by kernel_rfl) (fun _ _ _ h => h) (Or.inl ⟨by rfl, ?_⟩) hSa ?_
          · rintro w' _
            go_simp
          try simp only [Act.put, List.setIfInBounds_toArray, List.set_cons_zero, List.set_cons_succ]
          refine wpAnyH_ready (rs := [11]) (by kernel_rfl) (by simp) ?_
          refine AllReadyH.cons rfl (fun K hK => ?_) AllReadyH.nil
          try rw [if_pos (by rfl)]
          refine wp_store_vb' (T := 33) (vs := [.int .i64 (Ser.bringP x.r.x.v 3), .int .i64 (Ser.bringP x.r.x.m 6 - 1), .int .u8 0, .int .u8 0, .int .u8 0, .int .u8 0, .int .u8 0, .int .u8 0]) none rfl (.tmp 3) (.tmp 25) rfl rfl rfl hma rfl agg_mask rfl ?_
          intro v7 hn7 hg7 hz7
          refine hK.out _ _ (Vb.grown hSa hg7 (by omega)) (fun _ => ?_)
          clear hK K
          try simp only [Act.put, List.setIfInBounds_toArray, List.set_cons_zero, List.set_cons_succ]
          refine wpAnyH_done (by kernel_rfl) ?_ _
          go_wp2_with fail
          go_meet
          case rel => exact ⟨g3, rfl, hg3, Vb.grown hSa hg7 (by omega), Vb.grown hra hg7 (by omega), hn7, hBa.grown hg7 hBa.size (fun k e => by simp at e; omega)⟩
    · try rw [if_pos (by rfl)]
      have hba := below_alloc u0 (.cells #[.int .i64 0, .int .i64 0, .int .u8 0, .int .u8 0, .int .u8 0, .int .u8 0, .int .u8 0, .int .u8 0] 33)
      have hma := Vb.new 33 u0 [.int .i64 0, .int .i64 0, .int .u8 0, .int .u8 0, .int .u8 0, .int .u8 0, .int .u8 0, .int .u8 0]
      have hSa := Vb.alloc hS0 (.cells #[.int .i64 0, .int .i64 0, .int .u8 0, .int .u8 0, .int .u8 0, .int .u8 0, .int .u8 0, .int .u8 0] 33)
      have hra := hr0.alloc (.cells #[.int .i64 0, .int .i64 0, .int .u8 0, .int .u8 0, .int .u8 0, .int .u8 0, .int .u8 0, .int .u8 0] 33)
      have hBa := hB0.trans (hba.mono hB0.size)
      go_simp
      refine hK.out _ _ hSa (fun _ => ?_)
      clear hK K hba
      try simp only [Act.put, List.setIfInBounds_toArray, List.set_cons_zero, List.set_cons_succ]
      generalize hua : u0.alloc (.cells #[.int .i64 0, .int .i64 0, .int .u8 0, .int .u8 0, .int .u8 0, .int .u8 0, .int .u8 0, .int .u8 0] 33) = ua at *
      clear hua
      obtain ⟨g3, hgg⟩ : ∃ g3, g3 = u0.heap.size := ⟨_, rfl⟩
      rw [← hgg] at hma ⊢
      have hg3 : w.heap.size + 2 ≤ g3 := by omega
      clear hgg
      refine wpAnyH_ready (rs := [3]) (by kernel_rfl) (by simp) ?_
      refine AllReadyH.cons rfl (fun K hK => ?_) AllReadyH.nil
      · try rw [if_pos (by rfl)]
        go_simp
        go_at_call 33
        refine (Ser.bring_any _ _ _ (by omega) (by omega)).mono ?_
        rintro e v9 ⟨rfl, rfl⟩
        refine hK.out _ _ hSa (fun _ => ?_)
        clear hK K
        try simp only [Act.put, List.setIfInBounds_toArray, List.set_cons_zero, List.set_cons_succ]
        refine wpAnyH_ready (rs := [7]) (by kernel_rfl) (by simp) ?_
        refine AllReadyH.cons rfl (fun K hK => ?_) AllReadyH.nil
        · try rw [if_pos (by rfl)]
          go_simp
          go_at_call 33
          refine (Ser.bring_any _ _ _ (by omega) (by omega)).mono ?_
          rintro e v9 ⟨rfl, rfl⟩
          refine hK.out _ _ hSa (fun _ => ?_)
          clear hK K
          try simp only [Act.put, List.setIfInBounds_toArray, List.set_cons_zero, List.set_cons_succ]
          refine takeD (i := 8) (v := .int .i64 (Ser.bringP x.r.x.m 6 - 1)) (some 24) rfl rfl (by kernel_rfl) (by kernel_rfl) (by kernel_rfl) (fun _ _ _ h => h) (Or.inl ⟨by rfl, ?_⟩) hSa ?_
          · rintro w' _
            have fw := FW.out
            go_simp
          try simp only [Act.put, List.setIfInBounds_toArray, List.set_cons_zero, List.set_cons_succ]
          refine takeD (i := 9) (v := .agg #[.int .i64 (Ser.bringP x.r.x.v 3), .int .i64 (Ser.bringP x.r.x.m 6 - 1), .int .u8 0, .int .u8 0, .int .u8 0, .int .u8 0, .int .u8 0, .int .u8 0]) (some 25) rfl rfl (by kernel_rfl) (by kernel_rfl) (by kernel_rfl) (fun _ _ _ h => h) (Or.inl ⟨by rfl, ?_⟩) hSa ?_
          · rintro w' _
            go_simp
          try simp only [Act.put, List.setIfInBounds_toArray, List.set_cons_zero, List.set_cons_succ]
          refine wpAnyH_ready (rs := [11]) (by kernel_rfl) (by simp) ?_
          refine AllReadyH.cons rfl (fun K hK => ?_) AllReadyH.nil
          try rw [if_pos (by rfl)]
          refine wp_store_vb' (T := 33) (vs := [.int .i64 (Ser.bringP x.r.x.v 3), .int .i64 (Ser.bringP x.r.x.m 6 - 1), .int .u8 0, .int .u8 0, .int .u8 0, .int .u8 0, .int .u8 0, .int .u8 0]) none rfl (.tmp 3) (.tmp 25) rfl rfl rfl hma rfl agg_mask rfl ?_
          intro v7 hn7 hg7 hz7
          refine hK.out _ _ (Vb.grown hSa hg7 (by omega)) (fun _ => ?_)
          clear hK K
          try simp only [Act.put, List.setIfInBounds_toArray, List.set_cons_zero, List.set_cons_succ]
          refine wpAnyH_done (by kernel_rfl) ?_ _
          go_wp2_with fail
          go_meet
          case rel => exact ⟨g3, rfl, hg3, Vb.grown hSa hg7 (by omega), Vb.grown hra hg7 (by omega), hn7, hBa.grown hg7 hBa.size (fun k e => by simp at e; omega)⟩
  obtain ⟨g, rfl, hg, hx, hr, hm, hB⟩ := hcut
  clear hS0 hr0 hB0 hw0 FW
  go_wp2_with fail
  refine wp_loop_rounds (3 + 1) ?_
  rw [rounds_succ]
  have hf := hm.free
  obtain ⟨d0, d1, d2, d3, d4, d5, d6, d7, d8, d9, d10, d11, d12⟩ := hx.c13
  obtain ⟨e0, e1, e2, e3, e4, e5, e6, e7⟩ := hm.c8
  go_upto_region 8 with fail
  have hm2 : Vb 33 (wc.setCell ⟨g, 2, none⟩ (.int .u8 (bits .and .u8 x.r.x.b0 3))) g [.int .i64 (Ser.bringP x.r.x.v 3), .int .i64 (Ser.bringP x.r.x.m 6 - 1), .int .u8 (bits .and .u8 x.r.x.b0 3), .int .u8 0, .int .u8 0, .int .u8 0, .int .u8 0, .int .u8 0] := hm.set 2 _
  have hx2 := hx.other (r := g) (by omega) 2 (.int .u8 (bits .and .u8 x.r.x.b0 3))
  have hr2 := hr.other (r := g) (by omega) 2 (.int .u8 (bits .and .u8 x.r.x.b0 3))
  have hB2 := hB.setCell (p := ⟨g, 2, none⟩) (by simp; omega) (.int .u8 (bits .and .u8 x.r.x.b0 3))
  clear hx hr hm hB hf d0 d1 d2 d3 d4 d5 d6 d7 d8 d9 d10 d11 d12 e0 e1 e2 e3 e4 e5 e6 e7
  generalize wc.setCell ⟨g, 2, none⟩ (.int .u8 (bits .and .u8 x.r.x.b0 3)) = wa0 at *
  obtain ⟨d0, d1, d2, d3, d4, d5, d6, d7, d8, d9, d10, d11, d12⟩ := hx2.c13
  obtain ⟨e0, e1, e2, e3, e4, e5, e6, e7⟩ := hm2.c8
  go_still_tail 13, (by kernel_rfl)
  have hx3 : Vb 36 wa0.drew w.heap.size [.int .i64 x.r.k, .int .i64 x.r.pr, .int .i64 x.r.to, .int .i64 x.r.po, .int .i64 x.r.x.v, .int .i64 x.r.x.m, .int .u8 x.r.x.b0, .int .u8 x.r.x.b1, .int .u8 x.r.x.b2, .int .u8 x.r.x.i0, .int .u8 x.r.x.i1, .int .u8 x.r.x.i2, .slice x.A x.r.os.length x.c] := hx2
  have hr3 : Vb 36 wa0.drew (w.heap.size + 1) [.int .i64 0, .int .i64 0, .int .i64 0, .int .i64 0, .int .i64 0, .int .i64 0, .int .u8 0, .int .u8 0, .int .u8 0, .int .u8 0, .int .u8 0, .int .u8 0, .slice none 0 0] := hr2
  have hm3 : Vb 33 wa0.drew g [.int .i64 (Ser.bringP x.r.x.v 3), .int .i64 (Ser.bringP x.r.x.m 6 - 1), .int .u8 (bits .and .u8 x.r.x.b0 3), .int .u8 0, .int .u8 0, .int .u8 0, .int .u8 0, .int .u8 0] := hm2
  have hB3 := hB2.drew
  clear hx2 hr2 hm2 hB2 d0 d1 d2 d3 d4 d5 d6 d7 d8 d9 d10 d11 d12 e0 e1 e2 e3 e4 e5 e6 e7
  change wpList _ _ _ _ _ wa0.drew
  generalize wa0.drew = wb0 at *
  have hf := hm3.free
  obtain ⟨e0, e1, e2, e3, e4, e5, e6, e7⟩ := hm3.c8
  go_wp2_with fail
  have hm : Vb 33 (wb0.setCell ⟨g, 5, none⟩ (.int .u8 (bits .and .u8 x.r.x.i0 (bits .and .u8 x.r.x.b0 3)))) g [.int .i64 (Ser.bringP x.r.x.v 3), .int .i64 (Ser.bringP x.r.x.m 6 - 1), .int .u8 (bits .and .u8 x.r.x.b0 3), .int .u8 0, .int .u8 0, .int .u8 (bits .and .u8 x.r.x.i0 (bits .and .u8 x.r.x.b0 3)), .int .u8 0, .int .u8 0] := hm3.set 5 _
  have hx := hx3.other (r := g) (by omega) 5 (.int .u8 (bits .and .u8 x.r.x.i0 (bits .and .u8 x.r.x.b0 3)))
  have hr := hr3.other (r := g) (by omega) 5 (.int .u8 (bits .and .u8 x.r.x.i0 (bits .and .u8 x.r.x.b0 3)))
  have hB := hB3.setCell (p := ⟨g, 5, none⟩) (by simp; omega) (.int .u8 (bits .and .u8 x.r.x.i0 (bits .and .u8 x.r.x.b0 3)))
  clear hx3 hr3 hm3 hB3 hf e0 e1 e2 e3 e4 e5 e6 e7
  generalize wb0.setCell ⟨g, 5, none⟩ (.int .u8 (bits .and .u8 x.r.x.i0 (bits .and .u8 x.r.x.b0 3))) = wd0 at *
  rw [rounds_succ]
  have hf := hm.free
  obtain ⟨d0, d1, d2, d3, d4, d5, d6, d7, d8, d9, d10, d11, d12⟩ := hx.c13
  obtain ⟨e0, e1, e2, e3, e4, e5, e6, e7⟩ := hm.c8
  go_upto_region 8 with fail
  have hm2 : Vb 33 (wd0.setCell ⟨g, 3, none⟩ (.int .u8 (bits .and .u8 x.r.x.b1 3))) g [.int .i64 (Ser.bringP x.r.x.v 3), .int .i64 (Ser.bringP x.r.x.m 6 - 1), .int .u8 (bits .and .u8 x.r.x.b0 3), .int .u8 (bits .and .u8 x.r.x.b1 3), .int .u8 0, .int .u8 (bits .and .u8 x.r.x.i0 (bits .and .u8 x.r.x.b0 3)), .int .u8 0, .int .u8 0] := hm.set 3 _
  have hx2 := hx.other (r := g) (by omega) 3 (.int .u8 (bits .and .u8 x.r.x.b1 3))
  have hr2 := hr.other (r := g) (by omega) 3 (.int .u8 (bits .and .u8 x.r.x.b1 3))
  have hB2 := hB.setCell (p := ⟨g, 3, none⟩) (by simp; omega) (.int .u8 (bits .and .u8 x.r.x.b1 3))
  clear hx hr hm hB hf d0 d1 d2 d3 d4 d5 d6 d7 d8 d9 d10 d11 d12 e0 e1 e2 e3 e4 e5 e6 e7
  generalize wd0.setCell ⟨g, 3, none⟩ (.int .u8 (bits .and .u8 x.r.x.b1 3)) = wa1 at *
  obtain ⟨d0, d1, d2, d3, d4, d5, d6, d7, d8, d9, d10, d11, d12⟩ := hx2.c13
  obtain ⟨e0, e1, e2, e3, e4, e5, e6, e7⟩ := hm2.c8
  go_still_tail 13, (by kernel_rfl)
  have hx3 : Vb 36 wa1.drew w.heap.size [.int .i64 x.r.k, .int .i64 x.r.pr, .int .i64 x.r.to, .int .i64 x.r.po, .int .i64 x.r.x.v, .int .i64 x.r.x.m, .int .u8 x.r.x.b0, .int .u8 x.r.x.b1, .int .u8 x.r.x.b2, .int .u8 x.r.x.i0, .int .u8 x.r.x.i1, .int .u8 x.r.x.i2, .slice x.A x.r.os.length x.c] := hx2
  have hr3 : Vb 36 wa1.drew (w.heap.size + 1) [.int .i64 0, .int .i64 0, .int .i64 0, .int .i64 0, .int .i64 0, .int .i64 0, .int .u8 0, .int .u8 0, .int .u8 0, .int .u8 0, .int .u8 0, .int .u8 0, .slice none 0 0] := hr2
  have hm3 : Vb 33 wa1.drew g [.int .i64 (Ser.bringP x.r.x.v 3), .int .i64 (Ser.bringP x.r.x.m 6 - 1), .int .u8 (bits .and .u8 x.r.x.b0 3), .int .u8 (bits .and .u8 x.r.x.b1 3), .int .u8 0, .int .u8 (bits .and .u8 x.r.x.i0 (bits .and .u8 x.r.x.b0 3)), .int .u8 0, .int .u8 0] := hm2
  have hB3 := hB2.drew
  clear hx2 hr2 hm2 hB2 d0 d1 d2 d3 d4 d5 d6 d7 d8 d9 d10 d11 d12 e0 e1 e2 e3 e4 e5 e6 e7
  change wpList _ _ _ _ _ wa1.drew
  generalize wa1.drew = wb1 at *
  have hf := hm3.free
  obtain ⟨e0, e1, e2, e3, e4, e5, e6, e7⟩ := hm3.c8
  go_wp2_with fail
  have hm : Vb 33 (wb1.setCell ⟨g, 6, none⟩ (.int .u8 (bits .and .u8 x.r.x.i1 (bits .and .u8 x.r.x.b1 3)))) g [.int .i64 (Ser.bringP x.r.x.v 3), .int .i64 (Ser.bringP x.r.x.m 6 - 1), .int .u8 (bits .and .u8 x.r.x.b0 3), .int .u8 (bits .and .u8 x.r.x.b1 3), .int .u8 0, .int .u8 (bits .and .u8 x.r.x.i0 (bits .and .u8 x.r.x.b0 3)), .int .u8 (bits .and .u8 x.r.x.i1 (bits .and .u8 x.r.x.b1 3)), .int .u8 0] := hm3.set 6 _
  have hx := hx3.other (r := g) (by omega) 6 (.int .u8 (bits .and .u8 x.r.x.i1 (bits .and .u8 x.r.x.b1 3)))
  have hr := hr3.other (r := g) (by omega) 6 (.int .u8 (bits .and .u8 x.r.x.i1 (bits .and .u8 x.r.x.b1 3)))
  have hB := hB3.setCell (p := ⟨g, 6, none⟩) (by simp; omega) (.int .u8 (bits .and .u8 x.r.x.i1 (bits .and .u8 x.r.x.b1 3)))
  clear hx3 hr3 hm3 hB3 hf e0 e1 e2 e3 e4 e5 e6 e7
  generalize wb1.setCell ⟨g, 6, none⟩ (.int .u8 (bits .and .u8 x.r.x.i1 (bits .and .u8 x.r.x.b1 3))) = wd1 at *
  rw [rounds_succ]
  have hf := hm.free
  obtain ⟨d0, d1, d2, d3, d4, d5, d6, d7, d8, d9, d10, d11, d12⟩ := hx.c13
  obtain ⟨e0, e1, e2, e3, e4, e5, e6, e7⟩ := hm.c8
  go_upto_region 8 with fail
  have hm2 : Vb 33 (wd1.setCell ⟨g, 4, none⟩ (.int .u8 (bits .and .u8 x.r.x.b2 3))) g [.int .i64 (Ser.bringP x.r.x.v 3), .int .i64 (Ser.bringP x.r.x.m 6 - 1), .int .u8 (bits .and .u8 x.r.x.b0 3), .int .u8 (bits .and .u8 x.r.x.b1 3), .int .u8 (bits .and .u8 x.r.x.b2 3), .int .u8 (bits .and .u8 x.r.x.i0 (bits .and .u8 x.r.x.b0 3)), .int .u8 (bits .and .u8 x.r.x.i1 (bits .and .u8 x.r.x.b1 3)), .int .u8 0] := hm.set 4 _
  have hx2 := hx.other (r := g) (by omega) 4 (.int .u8 (bits .and .u8 x.r.x.b2 3))
  have hr2 := hr.other (r := g) (by omega) 4 (.int .u8 (bits .and .u8 x.r.x.b2 3))
  have hB2 := hB.setCell (p := ⟨g, 4, none⟩) (by simp; omega) (.int .u8 (bits .and .u8 x.r.x.b2 3))
  clear hx hr hm hB hf d0 d1 d2 d3 d4 d5 d6 d7 d8 d9 d10 d11 d12 e0 e1 e2 e3 e4 e5 e6 e7
  generalize wd1.setCell ⟨g, 4, none⟩ (.int .u8 (bits .and .u8 x.r.x.b2 3)) = wa2 at *
  obtain ⟨d0, d1, d2, d3, d4, d5, d6, d7, d8, d9, d10, d11, d12⟩ := hx2.c13
  obtain ⟨e0, e1, e2, e3, e4, e5, e6, e7⟩ := hm2.c8
  go_still_tail 13, (by kernel_rfl)
  have hx3 : Vb 36 wa2.drew w.heap.size [.int .i64 x.r.k, .int .i64 x.r.pr, .int .i64 x.r.to, .int .i64 x.r.po, .int .i64 x.r.x.v, .int .i64 x.r.x.m, .int .u8 x.r.x.b0, .int .u8 x.r.x.b1, .int .u8 x.r.x.b2, .int .u8 x.r.x.i0, .int .u8 x.r.x.i1, .int .u8 x.r.x.i2, .slice x.A x.r.os.length x.c] := hx2
  have hr3 : Vb 36 wa2.drew (w.heap.size + 1) [.int .i64 0, .int .i64 0, .int .i64 0, .int .i64 0, .int .i64 0, .int .i64 0, .int .u8 0, .int .u8 0, .int .u8 0, .int .u8 0, .int .u8 0, .int .u8 0, .slice none 0 0] := hr2
  have hm3 : Vb 33 wa2.drew g [.int .i64 (Ser.bringP x.r.x.v 3), .int .i64 (Ser.bringP x.r.x.m 6 - 1), .int .u8 (bits .and .u8 x.r.x.b0 3), .int .u8 (bits .and .u8 x.r.x.b1 3), .int .u8 (bits .and .u8 x.r.x.b2 3), .int .u8 (bits .and .u8 x.r.x.i0 (bits .and .u8 x.r.x.b0 3)), .int .u8 (bits .and .u8 x.r.x.i1 (bits .and .u8 x.r.x.b1 3)), .int .u8 0] := hm2
  have hB3 := hB2.drew
  clear hx2 hr2 hm2 hB2 d0 d1 d2 d3 d4 d5 d6 d7 d8 d9 d10 d11 d12 e0 e1 e2 e3 e4 e5 e6 e7
  change wpList _ _ _ _ _ wa2.drew
  generalize wa2.drew = wb2 at *
  have hf := hm3.free
  obtain ⟨e0, e1, e2, e3, e4, e5, e6, e7⟩ := hm3.c8
  go_wp2_with fail
  have hm : Vb 33 (wb2.setCell ⟨g, 7, none⟩ (.int .u8 (bits .and .u8 x.r.x.i2 (bits .and .u8 x.r.x.b2 3)))) g [.int .i64 (Ser.bringP x.r.x.v 3), .int .i64 (Ser.bringP x.r.x.m 6 - 1), .int .u8 (bits .and .u8 x.r.x.b0 3), .int .u8 (bits .and .u8 x.r.x.b1 3), .int .u8 (bits .and .u8 x.r.x.b2 3), .int .u8 (bits .and .u8 x.r.x.i0 (bits .and .u8 x.r.x.b0 3)), .int .u8 (bits .and .u8 x.r.x.i1 (bits .and .u8 x.r.x.b1 3)), .int .u8 (bits .and .u8 x.r.x.i2 (bits .and .u8 x.r.x.b2 3))] := hm3.set 7 _
  have hx := hx3.other (r := g) (by omega) 7 (.int .u8 (bits .and .u8 x.r.x.i2 (bits .and .u8 x.r.x.b2 3)))
  have hr := hr3.other (r := g) (by omega) 7 (.int .u8 (bits .and .u8 x.r.x.i2 (bits .and .u8 x.r.x.b2 3)))
  have hB := hB3.setCell (p := ⟨g, 7, none⟩) (by simp; omega) (.int .u8 (bits .and .u8 x.r.x.i2 (bits .and .u8 x.r.x.b2 3)))
  clear hx3 hr3 hm3 hB3 hf e0 e1 e2 e3 e4 e5 e6 e7
  generalize wb2.setCell ⟨g, 7, none⟩ (.int .u8 (bits .and .u8 x.r.x.i2 (bits .and .u8 x.r.x.b2 3))) = wd2 at *
  rw [rounds_succ]
  go_upto_region 9 with fail
  have hS0 : (fun W => Vb 36 W w.heap.size [.int .i64 x.r.k, .int .i64 x.r.pr, .int .i64 x.r.to, .int .i64 x.r.po, .int .i64 x.r.x.v, .int .i64 x.r.x.m, .int .u8 x.r.x.b0, .int .u8 x.r.x.b1, .int .u8 x.r.x.b2, .int .u8 x.r.x.i0, .int .u8 x.r.x.i1, .int .u8 x.r.x.i2, .slice x.A x.r.os.length x.c] ∧ Vb 33 W g [.int .i64 (Ser.bringP x.r.x.v 3), .int .i64 (Ser.bringP x.r.x.m 6 - 1), .int .u8 (bits .and .u8 x.r.x.b0 3), .int .u8 (bits .and .u8 x.r.x.b1 3), .int .u8 (bits .and .u8 x.r.x.b2 3), .int .u8 (bits .and .u8 x.r.x.i0 (bits .and .u8 x.r.x.b0 3)), .int .u8 (bits .and .u8 x.r.x.i1 (bits .and .u8 x.r.x.b1 3)), .int .u8 (bits .and .u8 x.r.x.i2 (bits .and .u8 x.r.x.b2 3))]) wd2.drew := ⟨hx, hm⟩
  have hr0 : Vb 36 wd2.drew (w.heap.size + 1) [.int .i64 0, .int .i64 0, .int .i64 0, .int .i64 0, .int .i64 0, .int .i64 0, .int .u8 0, .int .u8 0, .int .u8 0, .int .u8 0, .int .u8 0, .int .u8 0, .slice none 0 0] := hr
  have hB0 := hB.drew
  refine wp_region_held_drew (S := fun W => Vb 36 W w.heap.size [.int .i64 x.r.k, .int .i64 x.r.pr, .int .i64 x.r.to, .int .i64 x.r.po, .int .i64 x.r.x.v, .int .i64 x.r.x.m, .int .u8 x.r.x.b0, .int .u8 x.r.x.b1, .int .u8 x.r.x.b2, .int .u8 x.r.x.i0, .int .u8 x.r.x.i1, .int .u8 x.r.x.i2, .slice x.A x.r.os.length x.c] ∧ Vb 33 W g [.int .i64 (Ser.bringP x.r.x.v 3), .int .i64 (Ser.bringP x.r.x.m 6 - 1), .int .u8 (bits .and .u8 x.r.x.b0 3), .int .u8 (bits .and .u8 x.r.x.b1 3), .int .u8 (bits .and .u8 x.r.x.b2 3), .int .u8 (bits .and .u8 x.r.x.i0 (bits .and .u8 x.r.x.b0 3)), .int .u8 (bits .and .u8 x.r.x.i1 (bits .and .u8 x.r.x.b1 3)), .int .u8 (bits .and .u8 x.r.x.i2 (bits .and .u8 x.r.x.b2 3))]) (by kernel_rfl) hS0 (fun _ => ?_)
  clear hx hr hm hB
  generalize wd2.drew = u0 at *
  refine takeD (i := 0) (v := .pointer (some ⟨w.heap.size, 1, none⟩)) (some 52) rfl rfl (by kernel_rfl) (by kernel_rfl) (by kernel_rfl) (fun _ _ _ h => h) (Or.inl ⟨by rfl, ?_⟩) hS0 ?_
  · rintro w' _
    go_simp
  try simp only [Act.put, List.setIfInBounds_toArray, List.set_cons_zero, List.set_cons_succ]
  refine takeD (i := 1) (v := .int .i64 x.r.pr) (some 53) rfl rfl (by kernel_rfl) (by kernel_rfl) (by kernel_rfl) (fun _ _ _ h => h) (Or.inl ⟨by rfl, ?_⟩) hS0 ?_
  · rintro w' ⟨s0, _⟩
    obtain ⟨d0, d1, d2, d3, d4, d5, d6, d7, d8, d9, d10, d11, d12⟩ := s0.c13
    go_simp
  try simp only [Act.put, List.setIfInBounds_toArray, List.set_cons_zero, List.set_cons_succ]
  refine takeD (i := 3) (v := .agg #[.int .i64 (Ser.bringP x.r.x.v 3), .int .i64 (Ser.bringP x.r.x.m 6 - 1), .int .u8 (bits .and .u8 x.r.x.b0 3), .int .u8 (bits .and .u8 x.r.x.b1 3), .int .u8 (bits .and .u8 x.r.x.b2 3), .int .u8 (bits .and .u8 x.r.x.i0 (bits .and .u8 x.r.x.b0 3)), .int .u8 (bits .and .u8 x.r.x.i1 (bits .and .u8 x.r.x.b1 3)), .int .u8 (bits .and .u8 x.r.x.i2 (bits .and .u8 x.r.x.b2 3))]) (some 55) rfl rfl (by kernel_rfl) (by kernel_rfl) (by kernel_rfl) (fun _ _ _ h => h) (Or.inl ⟨by rfl, ?_⟩) hS0 ?_
  · rintro w' ⟨_, s1⟩
    obtain ⟨e0, e1, e2, e3, e4, e5, e6, e7⟩ := s1.c8
    go_simp
  try simp only [Act.put, List.setIfInBounds_toArray, List.set_cons_zero, List.set_cons_succ]
  refine takeD (i := 4) (v := .pointer (some ⟨w.heap.size, 3, none⟩)) (some 56) rfl rfl (by kernel_rfl) (by kernel_rfl) (by kernel_rfl) (fun _ _ _ h => h) (Or.inl ⟨by rfl, ?_⟩) hS0 ?_
  · rintro w' _
    go_simp
  try simp only [Act.put, List.setIfInBounds_toArray, List.set_cons_zero, List.set_cons_succ]
  refine takeD (i := 5) (v := .int .i64 x.r.po) (some 57) rfl rfl (by kernel_rfl) (by kernel_rfl) (by kernel_rfl) (fun _ _ _ h => h) (Or.inl ⟨by rfl, ?_⟩) hS0 ?_
  · rintro w' ⟨s0, _⟩
    obtain ⟨d0, d1, d2, d3, d4, d5, d6, d7, d8, d9, d10, d11, d12⟩ := s0.c13
    go_simp
  try simp only [Act.put, List.setIfInBounds_toArray, List.set_cons_zero, List.set_cons_succ]
  refine wpAnyH_ready (rs := [2]) (by kernel_rfl) (by simp) ?_
  refine AllReadyH.cons rfl (fun K hK => ?_) AllReadyH.nil
  try rw [if_pos (by rfl)]
  go_simp
  go_at_call 33
  refine (Ser.bring_any _ _ _ (by omega) (by omega)).mono ?_
  rintro e v9 ⟨rfl, rfl⟩
  refine hK.out _ _ hS0 (fun _ => ?_)
  clear hK K
  try simp only [Act.put, List.setIfInBounds_toArray, List.set_cons_zero, List.set_cons_succ]
  refine wpAnyH_ready (rs := [6]) (by kernel_rfl) (by simp) ?_
  refine AllReadyH.cons rfl (fun K hK => ?_) AllReadyH.nil
  try rw [if_pos (by rfl)]
  go_simp
  go_at_call 33
  refine (Ser.bring_any _ _ _ (by omega) (by omega)).mono ?_
  rintro e v9 ⟨rfl, rfl⟩
  refine hK.out _ _ hS0 (fun _ => ?_)
  clear hK K
  try simp only [Act.put, List.setIfInBounds_toArray, List.set_cons_zero, List.set_cons_succ]
  refine wpAnyH_ready (rs := [7]) (by kernel_rfl) (by simp) ?_
  refine AllReadyH.cons rfl (fun K hK => ?_) AllReadyH.nil
  try rw [if_pos (by rfl)]
  go_simp
  go_at_call 39
  refine (data_law _ (madeM x.r.x) _ _).mono ?_
  rintro e u6 ⟨z, hzr, rfl, hzo, hzf, hb6⟩
  replace hzr := Kp.mk hzr
  have hS7 : (fun W => Vb 36 W w.heap.size [.int .i64 x.r.k, .int .i64 x.r.pr, .int .i64 x.r.to, .int .i64 x.r.po, .int .i64 x.r.x.v, .int .i64 x.r.x.m, .int .u8 x.r.x.b0, .int .u8 x.r.x.b1, .int .u8 x.r.x.b2, .int .u8 x.r.x.i0, .int .u8 x.r.x.i1, .int .u8 x.r.x.i2, .slice x.A x.r.os.length x.c] ∧ Vb 33 W g [.int .i64 (Ser.bringP x.r.x.v 3), .int .i64 (Ser.bringP x.r.x.m 6 - 1), .int .u8 (bits .and .u8 x.r.x.b0 3), .int .u8 (bits .and .u8 x.r.x.b1 3), .int .u8 (bits .and .u8 x.r.x.b2 3), .int .u8 (bits .and .u8 x.r.x.i0 (bits .and .u8 x.r.x.b0 3)), .int .u8 (bits .and .u8 x.r.x.i1 (bits .and .u8 x.r.x.b1 3)), .int .u8 (bits .and .u8 x.r.x.i2 (bits .and .u8 x.r.x.b2 3))]) u6 := ⟨Vb.below hS0.1 hb6 (Vb.lt hS0.1), Vb.below hS0.2 hb6 (Vb.lt hS0.2)⟩
  have hr6 := hr0.below hb6 hr0.lt
  have hB6 := hB0.trans (hb6.mono hB0.size)
  have hzf2 := Kp.mk (show Fre w.heap.size z from fun hn a e => by have := hzf hn a e; have := hB0.size; omega)
  refine hK.out _ _ hS7 (fun _ => ?_)
  clear hK K hb6 hzf
  try simp only [Act.put, List.setIfInBounds_toArray, List.set_cons_zero, List.set_cons_succ]
  refine wpAnyH_ready (rs := [8]) (by kernel_rfl) (by simp) ?_
  refine AllReadyH.cons rfl (fun K hK => ?_) AllReadyH.nil
  try rw [if_pos (by rfl)]
  refine wp_store_vb' (T := 36) (vs := ics z) none rfl (.tmp 2) (.tmp 59) rfl rfl rfl hr6 rfl agg_rule rfl ?_
  intro v7 hn7 hg7 hz7
  refine hK.out _ _ ⟨Vb.grown hS7.1 hg7 (by omega), Vb.grown hS7.2 hg7 (by omega)⟩ (fun _ => ?_)
  clear hK K
  try simp only [Act.put, List.setIfInBounds_toArray, List.set_cons_zero, List.set_cons_succ]
  refine wpAnyH_done (by kernel_rfl) ?_ _
  go_wp2_with fail
  refine bodyPost_ret (results_one Try.results27 _ rfl hn7 agg_rule) rfl ?_
  exact ⟨z, hzr.out.trans HM.out.symm, rfl, hzo.vb hr6 (by decide) hg7, hzf2.out, hB6.grown hg7 hB6.size (fun k e => by simp at e; omega)⟩
end Go.Proofs.Ytlambnlehomkdaa.Oct
