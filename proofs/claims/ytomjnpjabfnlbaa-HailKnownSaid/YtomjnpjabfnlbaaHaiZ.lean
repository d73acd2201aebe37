/- Layer 16 (hail): ends that are none; a row of what comes, that grows. -/
import Derived.Test.YtomjnpjabfnlbaaHaiE
import Derived.Test.YtomjnpjabfnlbaaHaiX
import Derived.Lib.AppendZeros
import Derived.Maps.AppendAt
namespace Go.Proofs.Ytomjnpjabfnlbaa.Oct
open Go.RowKit
set_option linter.unusedVariables false
set_option linter.unusedSimpArgs false
/-- No call, no guest: nil, or a zero one. -/
def NC (w : World) (P : Option Addr) : Prop := P = none ∨ ∃ t, P = some ⟨t, 0, none⟩ ∧ Vb 65 w t [.int .i64 0, .int .i64 0, .int .i64 0, .int .i64 0]
def NGu (w : World) (P : Option Addr) : Prop := P = none ∨ ∃ t, P = some ⟨t, 0, none⟩ ∧ Vb 67 w t [.int .i64 0, .int .i64 0, .int .i64 0]
section
variable {w w' : World} {P : Option Addr}
theorem NC.below (h : NC w P) (hb : Below w.heap.size w w') : NC w' P := h.imp id (fun ⟨t, e, hv⟩ => ⟨t, e, hv.below hb hv.lt⟩)
theorem NGu.below (h : NGu w P) (hb : Below w.heap.size w w') : NGu w' P := h.imp id (fun ⟨t, e, hv⟩ => ⟨t, e, hv.below hb hv.lt⟩)
set_option maxRecDepth 100000 in
theorem NC.state (h : NC w P) : Calls Try.prog 33 #[.pointer P] w fun e w' => e = .returned (.int .i64 0) ∧ w' = w := by
  rcases h with rfl | ⟨t, rfl, hv⟩
  · go_enter Try.func33, Try.ntmps33
    go_wp2_with fail
    go_ret
    exact ⟨rfl, rfl⟩
  · have c0 := hv.cell 3 rfl
    clear hv
    go_enter Try.func33, Try.ntmps33
    go_wp2_with fail
    go_ret
    exact ⟨rfl, rfl⟩
set_option maxRecDepth 100000 in
theorem NC.boot (h : NC w P) : Calls Try.prog 16 #[.pointer P] w fun e w' => e = .returned (.int .i64 0) ∧ w' = w := by
  rcases h with rfl | ⟨t, rfl, hv⟩
  · go_enter Try.func16, Try.ntmps16
    go_wp2_with fail
    go_ret
    exact ⟨rfl, rfl⟩
  · have c0 := hv.cell 2 rfl
    clear hv
    go_enter Try.func16, Try.ntmps16
    go_wp2_with fail
    go_ret
    exact ⟨rfl, rfl⟩
set_option maxRecDepth 100000 in
theorem NGu.state (h : NGu w P) : Calls Try.prog 44 #[.pointer P] w fun e w' => e = .returned (.int .i64 0) ∧ w' = w := by
  rcases h with rfl | ⟨t, rfl, hv⟩
  · go_enter Try.func44, Try.ntmps44
    go_wp2_with fail
    go_ret
    exact ⟨rfl, rfl⟩
  · have c0 := hv.cell 0 rfl
    clear hv
    go_enter Try.func44, Try.ntmps44
    go_wp2_with fail
    go_ret
    exact ⟨rfl, rfl⟩
set_option maxRecDepth 100000 in
theorem NGu.epoch (h : NGu w P) : Calls Try.prog 18 #[.pointer P] w fun e w' => e = .returned (.int .i64 0) ∧ w' = w := by
  rcases h with rfl | ⟨t, rfl, hv⟩
  · go_enter Try.func18, Try.ntmps18
    go_wp2_with fail
    go_ret
    exact ⟨rfl, rfl⟩
  · have c0 := hv.cell 2 rfl
    clear hv
    go_enter Try.func18, Try.ntmps18
    go_wp2_with fail
    go_ret
    exact ⟨rfl, rfl⟩
set_option maxRecDepth 100000 in
theorem NGu.boot (h : NGu w P) : Calls Try.prog 20 #[.pointer P] w fun e w' => e = .returned (.int .i64 0) ∧ w' = w := by
  rcases h with rfl | ⟨t, rfl, hv⟩
  · go_enter Try.func20, Try.ntmps20
    go_wp2_with fail
    go_ret
    exact ⟨rfl, rfl⟩
  · have c0 := hv.cell 1 rfl
    clear hv
    go_enter Try.func20, Try.ntmps20
    go_wp2_with fail
    go_ret
    exact ⟨rfl, rfl⟩
set_option maxRecDepth 100000 in
theorem NC.open_ (h : NC w P) : Calls Try.prog 14 #[.pointer P] w fun e w' => e = .returned (.bool false) ∧ w' = w := by
  have HS := h.state
  clear h
  go_enter Try.func14, Try.ntmps14
  go_wp2_with fail
  refine HS.mono ?_
  rintro e w1 ⟨rfl, rfl⟩
  go_wp2_with fail
  go_ret
  exact ⟨rfl, rfl⟩
end
set_option maxRecDepth 100000 in
theorem NC.says {w : World} {P : Option Addr} (h : NC w P) : Calls Try.prog 11 #[.pointer P] w fun en w' => en = .returned (.tuple #[sv0.v, .bool false]) ∧ Below w.heap.size w w' := by
  have HN := Kp.mk (new_seg w sv0)
  have H1 : Kp (NC (w.alloc (.cells #[.int .i64 0, .int .i64 0, .int .i64 0, .int .i64 0, .int .i64 0, .int .i64 0, .int .i64 0, .int .i64 0, .slice none 0 0] 31)) P) := Kp.mk (h.below (below_alloc w _))
  clear h
  go_enter Try.func11, Try.ntmps11
  go_upto_region 2 with (refine wpList_store_new (vs := [.func (.func 30) #[] #[], .func (.func 31) #[] #[], .func (.func 32) #[] #[], .func (.func 30) #[] #[]]) rfl (.tmp 4) (.tmp 5) rfl rfl rfl rfl (by simp) rfl agg_says rfl ?_; intro w2 hv hb hz)
  have hC2 : NC w2 P := H1.out.below hb
  have HR2 := Kp.mk (And.intro (Vb.below HN.out.1 hb (Vb.lt HN.out.1)) (HN.out.2.trans (hb.mono HN.out.2.size)))
  have hS := hC2.state
  have hX := cSaysNothing w2 P
  have k1 := hv.cell 0 rfl
  clear hv hb hz hC2
  go_wp2_with fail
  refine hS.mono ?_
  rintro e1 w3 ⟨rfl, hw3⟩
  replace hw3 := hw3.symm
  subst hw3
  clear hS
  go_wp2_with fail
  refine hX.mono ?_
  rintro e1 w3 ⟨rfl, hb3⟩
  have hV := HR2.out.1.below hb3 HR2.out.1.lt
  have HB3 := Kp.mk (HR2.out.2.trans (hb3.mono HR2.out.2.size))
  have HZ := Kp.mk (show w.heap.size ≤ w3.heap.size from HB3.out.size)
  clear k1 hX hb3 HR2 HN H1
  go_wp2_with (refine wpList_store_vb (vs := (sv0).cells) rfl (.tmp 2) (.tmp 12) rfl rfl rfl hV rfl agg_seg rfl ?_; intro w4 hv4 hg4 hz4; clear hV)
  refine bodyPost_ret (v := .tuple #[(sv0).v, .bool false]) (results_pair Try.results11 _ rfl hv4 agg_seg) rfl ?_
  exact ⟨rfl, below_grown HB3.out hg4 HZ.out (Nat.le_refl _)⟩
set_option maxRecDepth 100000 in
set_option maxHeartbeats 1000000 in
theorem NC.take {w : World} {P : Option Addr} (h0 : NC w P) (x : Sv) : Calls Try.prog 26 #[.pointer P, x.v] w fun en w' => en = .returned (.bool false) ∧ Below w.heap.size w w' := by
  have HN := Kp.mk (new_seg w x)
  obtain ⟨k, t, f, h, p, o, s, a, A, n, c'⟩ := x
  have H1 : Kp (NC (w.alloc (.cells #[.int .i64 k, .int .i64 t, .int .i64 f, .int .i64 h, .int .i64 p, .int .i64 o, .int .i64 s, .int .i64 a, .slice A n c'] 31)) P) := Kp.mk (h0.below (below_alloc w _))
  clear h0
  simp only [Sv.v]
  go_enter Try.func26, Try.ntmps26
  go_upto_region 2 with (refine wpList_store_new (vs := [.func (.func 38) #[] #[], .func (.func 39) #[] #[], .func (.func 40) #[] #[], .func (.func 38) #[] #[]]) rfl (.tmp 5) (.tmp 6) rfl rfl rfl rfl (by simp) rfl agg_takes rfl ?_; intro w2 hv hb hz)
  have hC2 : NC w2 P := H1.out.below hb
  have hP2 : P2 w.heap.size k t f h p o s a A n c' 80 (w.heap.size + 1) [.func (.func 38) #[] #[], .func (.func 39) #[] #[], .func (.func 40) #[] #[], .func (.func 38) #[] #[]] w2 := ⟨Vb.below HN.out.1 hb (Vb.lt HN.out.1), by simpa using hv⟩
  have HB2 := Kp.mk ((HN.out.2.trans (hb.mono HN.out.2.size)).drew)
  have hd := (Below.refl w2.heap.size w2).drew
  have hC0 := hC2.below hd
  have hS0 := hP2.step hd
  clear hv hb hz hC2 hP2 hd H1 HN
  refine wp_region_held_drew (S := P2 w.heap.size k t f h p o s a A n c' 80 (w.heap.size + 1) [.func (.func 38) #[] #[], .func (.func 39) #[] #[], .func (.func 40) #[] #[], .func (.func 38) #[] #[]]) (by kernel_rfl) hS0 (fun _ => ?_)
  refine takeD (i := 0) (v := .pointer P) (some 7) rfl rfl (by kernel_rfl) (by kernel_rfl) (by kernel_rfl) (fun _ _ _ h => h) (Or.inl ⟨by rfl, ?_⟩) hS0 ?_
  · rintro w' hq
    go_simp
  try simp only [Act.put, List.setIfInBounds_toArray, List.set_cons_zero, List.set_cons_succ]
  refine takeD (i := 4) (v := .pointer P) (some 11) rfl rfl (by kernel_rfl) (by kernel_rfl) (by kernel_rfl) (fun _ _ _ h => h) (Or.inl ⟨by rfl, ?_⟩) hS0 ?_
  · rintro w' hq
    go_simp
  try simp only [Act.put, List.setIfInBounds_toArray, List.set_cons_zero, List.set_cons_succ]
  refine takeD (i := 5) (v := .agg #[.int .i64 k, .int .i64 t, .int .i64 f, .int .i64 h, .int .i64 p, .int .i64 o, .int .i64 s, .int .i64 a, .slice A n c']) (some 12) rfl rfl (by kernel_rfl) (by kernel_rfl) (by kernel_rfl) (fun _ _ _ h => h) (Or.inl ⟨by rfl, ?_⟩) hS0 ?_
  · rintro w' hq
    obtain ⟨d0, d1, d2, d3, d4, d5, d6, d7, d8⟩ := hq.nine
    go_simp
  try simp only [Act.put, List.setIfInBounds_toArray, List.set_cons_zero, List.set_cons_succ]
  refine wpAnyH_ready (rs := [1]) (by kernel_rfl) (by simp) ?_
  refine AllReadyH.cons rfl (fun K hK => ?_) AllReadyH.nil
  try rw [if_pos (by rfl)]
  go_simp
  refine (hC0.state).mono ?_
  rintro e u1 ⟨rfl, hw1⟩
  replace hw1 := hw1.symm
  subst hw1
  have hb1 := Below.refl w2.drew.heap.size w2.drew
  have hS1 := P2.step hS0 hb1
  refine hK.out _ _ hS1 (fun _ => ?_)
  clear hK K
  try simp only [Act.put, List.setIfInBounds_toArray, List.set_cons_zero, List.set_cons_succ]
  refine takeD (i := 2) (v := .pointer (some ⟨w.heap.size + 1, 0, none⟩)) (some 9) rfl rfl (by kernel_rfl) (by kernel_rfl) (by kernel_rfl) (fun _ _ _ h => h) (Or.inl ⟨by rfl, ?_⟩) hS1 ?_
  · rintro w' hq
    go_simp
  try simp only [Act.put, List.setIfInBounds_toArray, List.set_cons_zero, List.set_cons_succ]
  refine takeD (i := 3) (v := .func (.func 38) #[] #[]) (some 10) rfl rfl (by kernel_rfl) (by kernel_rfl) (by kernel_rfl) (fun _ _ _ h => h) (Or.inl ⟨by rfl, ?_⟩) hS1 ?_
  · rintro w' hq
    have c0 := hq.r.cell 0 rfl
    go_simp
  try simp only [Act.put, List.setIfInBounds_toArray, List.set_cons_zero, List.set_cons_succ]
  refine wpAnyH_ready (rs := [6]) (by kernel_rfl) (by simp) ?_
  refine AllReadyH.cons rfl (fun K hK => ?_) AllReadyH.nil
  try rw [if_pos (by rfl)]
  go_simp
  refine (cNothing _ P ⟨k, t, f, h, p, o, s, a, A, n, c'⟩).mono ?_
  rintro e1 u1 ⟨rfl, hg1⟩
  have hS2 := hS1.step hg1
  refine hK.out _ _ hS2 (fun _ => ?_)
  clear hK K
  try simp only [Act.put, List.setIfInBounds_toArray, List.set_cons_zero, List.set_cons_succ]
  refine takeD (i := 7) (v := (.bool false)) (some 4) rfl rfl (by kernel_rfl) (by kernel_rfl) (by kernel_rfl) (fun _ _ _ h => h) (Or.inl ⟨by rfl, ?_⟩) hS2 ?_
  · rintro w' hq
    go_simp
  try simp only [Act.put, List.setIfInBounds_toArray, List.set_cons_zero, List.set_cons_succ]
  refine wpAnyH_done (by kernel_rfl) ?_ _
  go_wp2_with fail
  go_ret
  exact ⟨rfl, HB2.out.trans (hg1.mono HB2.out.size)⟩
theorem gNothing (w : World) (P : Option Addr) (x : Sv) : Calls Try.prog 41 #[.pointer P, x.v] w fun en w' => en = .returned (.tuple #[sv0.v, .bool false, .bool false]) ∧ Below w.heap.size w w' := by
  obtain ⟨k, t, f, h, p, o, s, a, A, n, c'⟩ := x
  have hN := new_seg9 (w.alloc (.cells #[.int .i64 k, .int .i64 t, .int .i64 f, .int .i64 h, .int .i64 p, .int .i64 o, .int .i64 s, .int .i64 a, .slice A n c'] 31)) 0 0 0 0 0 0 0 0 none 0 0
  have HB := Kp.mk ((below_alloc w (.cells #[.int .i64 k, .int .i64 t, .int .i64 f, .int .i64 h, .int .i64 p, .int .i64 o, .int .i64 s, .int .i64 a, .slice A n c'] 31)).trans (hN.2.mono (by simp)))
  have HV : Kp (Vb 31 ((w.alloc (.cells #[.int .i64 k, .int .i64 t, .int .i64 f, .int .i64 h, .int .i64 p, .int .i64 o, .int .i64 s, .int .i64 a, .slice A n c'] 31)).alloc (.cells #[.int .i64 0, .int .i64 0, .int .i64 0, .int .i64 0, .int .i64 0, .int .i64 0, .int .i64 0, .int .i64 0, .slice none 0 0] 31)) (w.heap.size + 1) sv0.cells) := Kp.mk (by have := hN.1; rw [allocZ] at this; exact this)
  clear hN
  simp only [Sv.v]
  go_enter Try.func41, Try.ntmps41
  go_wp2_with fail
  refine bodyPost_ret (v := .tuple #[sv0.v, .bool false, .bool false]) (results_three Try.results41 _ rfl HV.out agg_seg) rfl ?_
  exact ⟨rfl, HB.out⟩
set_option maxRecDepth 100000 in
set_option maxHeartbeats 2000000 in
theorem NGu.take {w : World} {P : Option Addr} (h0 : NGu w P) (x : Sv) : Calls Try.prog 27 #[.pointer P, x.v] w fun en w' => en = .returned (.tuple #[sv0.v, .bool false, .bool false]) ∧ Below w.heap.size w w' := by
  obtain ⟨k, t, f, h, p, o, s, a, A, n, c'⟩ := x
  have hN := new_seg (w.alloc (.cells #[.int .i64 k, .int .i64 t, .int .i64 f, .int .i64 h, .int .i64 p, .int .i64 o, .int .i64 s, .int .i64 a, .slice A n c'] 31)) sv0
  rw [allocZ] at hN
  have hB := new_seg w ⟨k, t, f, h, p, o, s, a, A, n, c'⟩
  have H1 : Kp (NGu ((w.alloc (.cells #[.int .i64 k, .int .i64 t, .int .i64 f, .int .i64 h, .int .i64 p, .int .i64 o, .int .i64 s, .int .i64 a, .slice A n c'] 31)).alloc (.cells #[.int .i64 0, .int .i64 0, .int .i64 0, .int .i64 0, .int .i64 0, .int .i64 0, .int .i64 0, .int .i64 0, .slice none 0 0] 31)) P ∧ Vb 31 ((w.alloc (.cells #[.int .i64 k, .int .i64 t, .int .i64 f, .int .i64 h, .int .i64 p, .int .i64 o, .int .i64 s, .int .i64 a, .slice A n c'] 31)).alloc (.cells #[.int .i64 0, .int .i64 0, .int .i64 0, .int .i64 0, .int .i64 0, .int .i64 0, .int .i64 0, .int .i64 0, .slice none 0 0] 31)) w.heap.size [.int .i64 k, .int .i64 t, .int .i64 f, .int .i64 h, .int .i64 p, .int .i64 o, .int .i64 s, .int .i64 a, .slice A n c'] ∧ Vb 31 ((w.alloc (.cells #[.int .i64 k, .int .i64 t, .int .i64 f, .int .i64 h, .int .i64 p, .int .i64 o, .int .i64 s, .int .i64 a, .slice A n c'] 31)).alloc (.cells #[.int .i64 0, .int .i64 0, .int .i64 0, .int .i64 0, .int .i64 0, .int .i64 0, .int .i64 0, .int .i64 0, .slice none 0 0] 31)) (w.heap.size + 1) sv0.cells ∧ Below w.heap.size w ((w.alloc (.cells #[.int .i64 k, .int .i64 t, .int .i64 f, .int .i64 h, .int .i64 p, .int .i64 o, .int .i64 s, .int .i64 a, .slice A n c'] 31)).alloc (.cells #[.int .i64 0, .int .i64 0, .int .i64 0, .int .i64 0, .int .i64 0, .int .i64 0, .int .i64 0, .int .i64 0, .slice none 0 0] 31))) :=
    Kp.mk ⟨(h0.below (below_alloc w _)).below (below_alloc _ _), Vb.alloc hB.1 _, hN.1, hB.2.trans (hN.2.mono (by omega))⟩
  clear h0 hN hB
  simp only [Sv.v]
  go_enter Try.func27, Try.ntmps27
  go_upto_region 2 with (refine wpList_store_new (vs := [.func (.func 41) #[] #[], .func (.func 42) #[] #[], .func (.func 43) #[] #[]]) rfl (.tmp 7) (.tmp 8) rfl rfl rfl rfl (by simp) rfl agg_gtakes rfl ?_; intro w2 hv hb hz)
  have hG2 : NGu w2 P := H1.out.1.below hb
  have hP2 : P2 w.heap.size k t f h p o s a A n c' 82 (w.heap.size + 2) [.func (.func 41) #[] #[], .func (.func 42) #[] #[], .func (.func 43) #[] #[]] w2 := ⟨Vb.below H1.out.2.1 hb (Vb.lt H1.out.2.1), by simpa using hv⟩
  have hA2 := Vb.below H1.out.2.2.1 hb (Vb.lt H1.out.2.2.1)
  have HB2 := Kp.mk ((H1.out.2.2.2.trans (hb.mono H1.out.2.2.2.size)).drew)
  have hd := (Below.refl w2.heap.size w2).drew
  have hG0 := hG2.below hd
  have hS0 := hP2.step hd
  have hA0 := hA2.below hd hA2.lt
  clear hv hb hz hG2 hP2 hA2 hd H1
  refine wp_region_held_drew (S := P2 w.heap.size k t f h p o s a A n c' 82 (w.heap.size + 2) [.func (.func 41) #[] #[], .func (.func 42) #[] #[], .func (.func 43) #[] #[]]) (by kernel_rfl) hS0 (fun _ => ?_)
  refine takeD (i := 0) (v := .pointer P) (some 9) rfl rfl (by kernel_rfl) (by kernel_rfl) (by kernel_rfl) (fun _ _ _ h => h) (Or.inl ⟨by rfl, ?_⟩) hS0 ?_
  · rintro w' hq
    go_simp
  try simp only [Act.put, List.setIfInBounds_toArray, List.set_cons_zero, List.set_cons_succ]
  refine takeD (i := 4) (v := .pointer P) (some 13) rfl rfl (by kernel_rfl) (by kernel_rfl) (by kernel_rfl) (fun _ _ _ h => h) (Or.inl ⟨by rfl, ?_⟩) hS0 ?_
  · rintro w' hq
    go_simp
  try simp only [Act.put, List.setIfInBounds_toArray, List.set_cons_zero, List.set_cons_succ]
  refine takeD (i := 5) (v := .agg #[.int .i64 k, .int .i64 t, .int .i64 f, .int .i64 h, .int .i64 p, .int .i64 o, .int .i64 s, .int .i64 a, .slice A n c']) (some 14) rfl rfl (by kernel_rfl) (by kernel_rfl) (by kernel_rfl) (fun _ _ _ h => h) (Or.inl ⟨by rfl, ?_⟩) hS0 ?_
  · rintro w' hq
    obtain ⟨d0, d1, d2, d3, d4, d5, d6, d7, d8⟩ := hq.nine
    go_simp
  try simp only [Act.put, List.setIfInBounds_toArray, List.set_cons_zero, List.set_cons_succ]
  refine wpAnyH_ready (rs := [1]) (by kernel_rfl) (by simp) ?_
  refine AllReadyH.cons rfl (fun K hK => ?_) AllReadyH.nil
  try rw [if_pos (by rfl)]
  go_simp
  refine (hG0.state).mono ?_
  rintro e u1 ⟨rfl, hw1⟩
  replace hw1 := hw1.symm
  subst hw1
  have hb1 := Below.refl w2.drew.heap.size w2.drew
  have hS1 := P2.step hS0 hb1
  refine hK.out _ _ hS1 (fun _ => ?_)
  clear hK K
  try simp only [Act.put, List.setIfInBounds_toArray, List.set_cons_zero, List.set_cons_succ]
  refine takeD (i := 2) (v := .pointer (some ⟨w.heap.size + 2, 0, none⟩)) (some 11) rfl rfl (by kernel_rfl) (by kernel_rfl) (by kernel_rfl) (fun _ _ _ h => h) (Or.inl ⟨by rfl, ?_⟩) hS1 ?_
  · rintro w' hq
    go_simp
  try simp only [Act.put, List.setIfInBounds_toArray, List.set_cons_zero, List.set_cons_succ]
  refine takeD (i := 3) (v := .func (.func 41) #[] #[]) (some 12) rfl rfl (by kernel_rfl) (by kernel_rfl) (by kernel_rfl) (fun _ _ _ h => h) (Or.inl ⟨by rfl, ?_⟩) hS1 ?_
  · rintro w' hq
    have c0 := hq.r.cell 0 rfl
    go_simp
  try simp only [Act.put, List.setIfInBounds_toArray, List.set_cons_zero, List.set_cons_succ]
  refine wpAnyH_ready (rs := [6]) (by kernel_rfl) (by simp) ?_
  refine AllReadyH.cons rfl (fun K hK => ?_) AllReadyH.nil
  try rw [if_pos (by rfl)]
  go_simp
  refine (gNothing _ P ⟨k, t, f, h, p, o, s, a, A, n, c'⟩).mono ?_
  rintro e1 u1 ⟨rfl, hg1⟩
  have hS2 := hS1.step hg1
  have hA1 := hA0.below hg1 hA0.lt
  refine hK.out _ _ hS2 (fun _ => ?_)
  clear hK K
  try simp only [Act.put, List.setIfInBounds_toArray, List.set_cons_zero, List.set_cons_succ]
  refine takeD (i := 7) (v := ((sv0).v)) (some 16) rfl rfl (by kernel_rfl) (by kernel_rfl) (by kernel_rfl) (fun _ _ _ h => h) (Or.inl ⟨by rfl, ?_⟩) hS2 ?_
  · rintro w' hq
    go_simp
  try simp only [Act.put, List.setIfInBounds_toArray, List.set_cons_zero, List.set_cons_succ]
  refine takeD (i := 8) (v := (.bool (false))) (some 17) rfl rfl (by kernel_rfl) (by kernel_rfl) (by kernel_rfl) (fun _ _ _ h => h) (Or.inl ⟨by rfl, ?_⟩) hS2 ?_
  · rintro w' hq
    go_simp
  try simp only [Act.put, List.setIfInBounds_toArray, List.set_cons_zero, List.set_cons_succ]
  refine takeD (i := 9) (v := (.bool (false))) (some 18) rfl rfl (by kernel_rfl) (by kernel_rfl) (by kernel_rfl) (fun _ _ _ h => h) (Or.inl ⟨by rfl, ?_⟩) hS2 ?_
  · rintro w' hq
    go_simp
  try simp only [Act.put, List.setIfInBounds_toArray, List.set_cons_zero, List.set_cons_succ]
  refine wpAnyH_ready (rs := [10]) (by kernel_rfl) (by simp) ?_
  refine AllReadyH.cons rfl (fun K hK => ?_) AllReadyH.nil
  try rw [if_pos (by rfl)]
  refine wp_store_vbH (vs := (sv0).cells) none rfl (.tmp 4) (.tmp 16) rfl rfl rfl hA1 rfl agg_seg rfl ?_
  intro u4 hv4 hg4 hz4
  have hS3 := hS2.grow hg4 (by omega) (by omega)
  refine hK.out _ _ hS3 (fun _ => ?_)
  clear hK K
  try simp only [Act.put, List.setIfInBounds_toArray, List.set_cons_zero, List.set_cons_succ]
  refine takeD (i := 11) (v := (.bool (false))) (some 5) rfl rfl (by kernel_rfl) (by kernel_rfl) (by kernel_rfl) (fun _ _ _ h => h) (Or.inl ⟨by rfl, ?_⟩) hS3 ?_
  · rintro w' hq
    go_simp
  try simp only [Act.put, List.setIfInBounds_toArray, List.set_cons_zero, List.set_cons_succ]
  refine takeD (i := 12) (v := (.bool (false))) (some 6) rfl rfl (by kernel_rfl) (by kernel_rfl) (by kernel_rfl) (fun _ _ _ h => h) (Or.inl ⟨by rfl, ?_⟩) hS3 ?_
  · rintro w' hq
    go_simp
  try simp only [Act.put, List.setIfInBounds_toArray, List.set_cons_zero, List.set_cons_succ]
  refine wpAnyH_done (by kernel_rfl) ?_ _
  go_wp2_with fail
  refine bodyPost_ret (v := .tuple #[(sv0).v, .bool (false), .bool (false)]) (results_three Try.results27 _ rfl hv4 agg_seg) rfl ?_
  exact ⟨rfl, below_grown (HB2.out.trans (hg1.mono HB2.out.size)) hg4 (Nat.le_trans HB2.out.size hg1.size) (by omega)⟩
theorem DoH.cells_len (q : DoH) : q.cells.length = 11 := rfl
/-- Segments, laid flat. -/
def flatD : List DoH → List Value
  | [] => []
  | x :: r => x.cells ++ flatD r
theorem flatD_len : ∀ l, (flatD l).length = l.length * 11
  | [] => rfl
  | x :: r => by simp [flatD, flatD_len r, DoH.cells_len]; omega
theorem flatD_append : ∀ a b, flatD (a ++ b) = flatD a ++ flatD b
  | [], b => rfl
  | x :: r, b => by simp [flatD, flatD_append r b]
theorem flatD_at : ∀ (l : List DoH) (j : Nat) (x : DoH), l[j]? = some x → ∀ i u, x.cells[i]? = some u → (flatD l)[j * 11 + i]? = some u
  | [], j, x, h, i, u, hu => by simp at h
  | y :: r, 0, x, h, i, u, hu => by
    simp at h
    subst h
    have hi : i < y.cells.length := (List.getElem?_eq_some_iff.1 hu).1
    rw [flatD, Nat.zero_mul, Nat.zero_add, List.getElem?_append_left hi]
    exact hu
  | y :: r, j + 1, x, h, i, u, hu => by
    have ih := flatD_at r j x (by simpa using h) i u hu
    rw [flatD, List.getElem?_append_right (by rw [DoH.cells_len]; omega), DoH.cells_len, show (j + 1) * 11 + i - 11 = j * 11 + i by omega]
    exact ih
theorem cells_oneD (x : DoH) : ∀ u ∈ x.cells, u.oneCell' = true := by
  intro u hu
  simp only [DoH.cells, Sv.cells, List.mem_cons, List.not_mem_nil, or_false] at hu
  rcases hu with rfl | rfl | rfl | rfl | rfl | rfl | rfl | rfl | rfl | rfl | rfl <;> rfl
theorem flatD_one : ∀ (l : List DoH), ∀ u ∈ flatD l, u.oneCell' = true
  | [], u, h => by simp [flatD] at h
  | x :: r, u, h => by
    simp only [flatD, List.mem_append] at h
    rcases h with h | h
    · exact cells_oneD x u h
    · exact flatD_one r u h
theorem info_doh : (Try.prog.info? 47).map (fun i => (i.zero, i.size, i.bytes)) = some (some (.agg #[.int .i64 0, .int .i64 0, .int .i64 0, .int .i64 0, .int .i64 0, .int .i64 0, .int .i64 0, .int .i64 0, .int .i64 0, .int .i64 0, .slice none 0 0]), 11, 104) := by kernel_rfl
/-- A row of segments of the call's own. -/
def Odo (w : World) (base : Nat) (v : Value) (n : Nat) (l : List DoH) : Prop := w.ownsRow base 47 11 v n (flatD l)
section
variable {w w' : World} {base n : Nat} {v : Value} {l : List DoH}
theorem Odo.len (h : Odo w base v n l) : l.length = n := by have := h.1; rw [flatD_len] at this; omega
theorem Odo.nil0 (w : World) (base : Nat) : Odo w base (.slice none 0 0) 0 [] := World.ownsRow_nil w base _ 11
theorem Odo.form (h : Odo w base v n l) : ∃ A c, v = .slice A n c ∧ n ≤ c ∧ c ≤ maxLen ∧ (A = none → c = 0) ∧ (∀ a, A = some a → ∃ g, a = ⟨g, 0, none⟩ ∧ base ≤ g ∧ g < w.heap.size) := by
  rcases h.2 with ⟨rfl, rfl⟩ | ⟨g, cap, cur, rfl, hbg, hg, hnc, hcm, _⟩
  · exact ⟨none, 0, rfl, Nat.le_refl _, Nat.zero_le _, fun _ => rfl, fun a h => by simp at h⟩
  · exact ⟨some ⟨g, 0, none⟩, cap, rfl, hnc, hcm, fun h => by simp at h, fun a h => ⟨g, by simpa using h.symm, hbg, (Array.getElem?_eq_some_iff.1 hg).1⟩⟩
theorem Odo.below (h : Odo w base v n l) (hb : Below w.heap.size w w') : Odo w' base v n l := by
  refine ⟨h.1, ?_⟩
  rcases h.2 with h2 | ⟨g, cap, cur, e, hbg, hg, r⟩
  · exact .inl h2
  · exact .inr ⟨g, cap, cur, e, hbg, (hb.block g (Array.getElem?_eq_some_iff.1 hg).1).trans hg, r⟩
/-- .. where a block of another type has changed. -/
theorem Odo.grown (h : Odo w base v n l) {T : TypeId} {r : Nat} {cs : List Value} (hv : Vb T w r cs) (hT : T ≠ 47) (hg : w.grownBy w' (some r)) : Odo w' base v n l := by
  refine ⟨h.1, ?_⟩
  rcases h.2 with h2 | ⟨g, cap, cur, e, hbg, hh, q⟩
  · exact .inl h2
  · have hne : g ≠ r := fun e2 => by
      subst e2
      have h2 := (show w.heap[g]? = _ from hv).symm.trans hh
      have h2 := Option.some.inj h2
      injection h2 with _ h3 _
      exact hT h3
    exact .inr ⟨g, cap, cur, e, hbg, (hg.block g (Array.getElem?_eq_some_iff.1 hh).1 (by simp; exact hne)).trans hh, q⟩
/-- A block of another type stays, where the row grows. -/
theorem Odo.keeps (h : Odo w base v n l) {T : TypeId} {r : Nat} {cs : List Value} (hv : Vb T w r cs) (hT : T ≠ 47) (hg : w.grownBy w' v.ownBlock) : Vb T w' r cs := by
  refine (hg.block r hv.lt (fun e2 => ?_)).trans hv
  rcases h.2 with ⟨rfl, _⟩ | ⟨g, cap, cur, rfl, hbg, hh, q⟩
  · simp [Value.ownBlock] at e2
  · have e3 : g = r := (by simpa [Value.ownBlock] using e2 : r = g).symm
    subst e3
    have h2 := (show w.heap[g]? = _ from hv).symm.trans hh
    have h2 := Option.some.inj h2
    injection h2 with _ h3 _
    exact hT h3
theorem Odo.at_ {A : Option Addr} {c : Nat} (h : Odo w base (.slice A n c) n l) (hn : 0 < n) : ∃ g, A = some ⟨g, 0, none⟩ ∧ g < w.heap.size ∧ ∀ (j : Nat) (x : DoH), l[j]? = some x → ∀ i u, x.cells[i]? = some u → w.cell? ⟨g, j * 11 + i, none⟩ = some u := by
  obtain ⟨g, cap, hv, _, hlt⟩ := World.ownsRow.form h hn
  injection hv with hA _ _
  subst hA
  refine ⟨g, rfl, hlt, fun j x hj i u hu => ?_⟩
  have key := World.ownsRow.cells h (g := g) rfl (j * 11 + i) u (flatD_at l j x hj i u hu)
  simpa [add_addr] using key
end
/-- append of a segment, as an equation. -/
theorem Odo.more {w : World} (ty : TypeId) {base : Nat} {v : Value} {n : Nat} {l : List DoH} (x : DoH) (h : Odo w base v n l) (hsz : n ≤ 1000000) (hbase : base ≤ w.heap.size) :
    ∃ A' c' w', (Builtin.append_ #[23, 23] ty #[v, .slice (some ⟨w.heap.size, 0, none⟩) 1 1]).run Try.prog (w.alloc (.cells x.cells.toArray 47)) = .ok (.slice A' (n + 1) c') w' ∧ Odo w' base (.slice A' (n + 1) c') (n + 1) (l ++ [x]) ∧ w.grownBy w' v.ownBlock ∧ Below base w w' := by
  have hb := below_alloc w (.cells x.cells.toArray 47)
  have h1 := h.below hb
  have hv := Vb.new 47 w x.cells
  obtain ⟨i0, hi, hz0, hz1, hz2⟩ := info_parts info_doh
  have hcells : ∀ j u, x.cells[j]? = some u → (w.alloc (.cells x.cells.toArray 47)).cell? ((⟨w.heap.size, 0, none⟩ : Addr).add j) = some u := by
    intro j u hu
    rw [add_addr, Nat.zero_add]
    exact hv.cell j hu
  obtain ⟨v', w', hrun, h2, h3, h4, h5⟩ := run_append_own_at (P := Try.prog) _ base 23 ty 47 i0 _ 11 104 Try.underlying23 hi hz0 hz1 hz2 rfl (by omega) v n _ h1 ⟨w.heap.size, 0, none⟩ 1 1 x.cells (by rw [DoH.cells_len]) hcells
    (cells_oneD x) (by unfold maxLen; omega) (by omega) (Nat.le_trans hbase hb.size)
  have hO : Odo w' base v' (n + 1) (l ++ [x]) := by unfold Odo; rw [flatD_append, flatD, flatD, List.append_nil]; exact h2
  obtain ⟨A', c', e, _⟩ := hO.form
  subst e
  refine ⟨A', c', w', hrun, hO, (grown_of_below hb _).trans h3, (hb.mono hbase).trans ?_⟩
  refine (Below.refl base _).grown h3 (Nat.le_trans hbase hb.size) (fun k hk => ?_)
  exact (World.ownsRow.lt h1 k hk).1
theorem Odo.dh {w : World} {base n c : Nat} {A : Option Addr} {l : List DoH} (h : Odo w base (.slice A n c) n l) : Dh w w.heap.size A n c l := by
  obtain ⟨A', c', e, h1, h2, h3, h4⟩ := h.form
  injection e with e1 e2 e3
  subst e1 e3
  refine ⟨h.len, h1, h2, h3, fun hn => ?_⟩
  obtain ⟨g, eg, hlt, hc⟩ := h.at_ hn
  refine ⟨g, 0, eg, hlt, fun j q hj i u hu => ?_⟩
  have := hc j q hj i u hu
  rwa [Nat.zero_add]
theorem Odo.lit {w : World} {base m : Nat} (hb : base ≤ w.heap.size) (l : List DoH) (hl : l.length = m) (hm : m ≤ 1000) : Odo (w.alloc (.cells (flatD l).toArray 47)) base (.slice (some ⟨w.heap.size, 0, none⟩) m m) m l :=
  ⟨by rw [flatD_len, hl], .inr ⟨w.heap.size, m, (flatD l).toArray, rfl, hb, heap_alloc_new w _, Nat.le_refl _, by unfold maxLen; omega, by simp [flatD_len, hl], by rw [List.take_of_length_le (by simp [flatD_len, hl])]⟩⟩
end Go.Proofs.Ytomjnpjabfnlbaa.Oct
