import Derived.Test.YtnoflfbcgbhipaaGreatSesWi
import Derived.Deep.RegionWith
set_option linter.unusedSimpArgs false
set_option linter.unusedVariables false
set_option maxRecDepth 100000
set_option maxHeartbeats 8000000
namespace Go.Proofs.YtnoflfbcgbhipaaGreat.Oct
open Go.RowKit
def barO (n : Int) : OrdV := ⟨6, n, 0, noRule, 0, 0, 0, 0, 0⟩
def Wd.sendL (x : Wd) : Wd := { x with l := x.l.send (barO x.sent), sent := x.sent + 1, rl := if x.l.sendE (barO x.sent) = 0 then updF x.rl x.l.e.toNat (x.rl x.l.e.toNat ++ [x.sent]) else x.rl }
section
variable {W w w' : World} {wb : Nat} {Z : Wk} {x : Wd}
theorem u8_barO (n : Int) : u8M (barO n).r.x := by unfold barO noRule noMask u8M; simp [By]
theorem send_e (l : Ls) (o : OrdV) : (l.send o).e = l.e := by
 obtain ⟨tz, s⟩ := l
 cases s with
 | none => rfl
 | some y =>
  obtain ⟨b, bt, q, so, fl⟩ := y
  cases fl with
  | true => rfl
  | false => exact (put_keeps (b := b) o).2.2.1
theorem wcl_setSent (x : Wd) (Z : Wk) (n : Int) : (wcl x Z).set 6 (.int .i64 n) = wcl { x with sent := n } Z := rfl
theorem wcl_at (x : Wd) (Z : Wk) {j : Nat} {u : Value} (hj : j < 7) (h : ([.pointer (some ⟨Z.lb, 0, none⟩), .pointer (some ⟨Z.pb, 0, none⟩), .int .i64 x.now, .int .i64 x.boot, .int .i64 x.ep, Z.wv, .int .i64 x.sent] : List Value)[j]? = some u) : (wcl x Z)[j]? = some u := by
 unfold wcl
 rw [List.getElem?_append_left (by simpa using hj)]
 exact h
theorem sendsL_any (h : Ww W w wb Z x) (he : 0 ≤ x.l.e ∧ x.l.e < 256) (hs : 0 ≤ x.sent ∧ x.sent ≤ 1000000) (hr : ∀ r, r < 512 → (x.rl r).length ≤ 1000000) : Calls Tryz.prog 32 #[.pointer (some ⟨wb, 0, none⟩), .bool true] w fun en w' => en = .returned (.tuple #[]) ∧ ∃ Z', Ww W w' wb Z' x.sendL := by
 have a6 := h.own.cell 6 (wcl_at x Z (by omega) (u := .int .i64 x.sent) rfl)
 have HH := Kp.mk h
 have HE := Kp.mk he
 have HS := Kp.mk hs
 have HR := Kp.mk hr
 clear h he hs hr
 go_enter Tryz.func32, Tryz.ntmps32
 obtain ⟨s0, es0⟩ : ∃ s0, s0 = x.sent := ⟨_, rfl⟩
 rw [← es0] at a6
 have ES0 := Kp.mk es0
 clear es0
 go_upto_region 1 with (refine wpList_store_new (vs := [.int .i64 6, .int .i64 s0, .int .i64 0, .int .i64 0, .int .i64 0, .int .i64 0, .int .i64 0, .int .i64 0, .int .i64 0, .int .u8 0, .int .u8 0, .int .u8 0, .int .u8 0, .int .u8 0, .int .u8 0, .slice none 0 0, .int .i64 0, .int .i64 0, .int .i64 0, .int .i64 0, .int .i64 0]) rfl (.tmp 4) (.tmp 10) rfl rfl rfl rfl rfl rfl agg_order rfl ?_; intro w2 hv2 hb2 hz2)
 have ho2 : Vb 51 w2 w.heap.size (ocl (barO s0) (.slice none 0 0)) := hv2
 have h2 := HH.out.below hb2
 have HO2 := Kp.mk ho2
 obtain ⟨g, eg⟩ : ∃ g, g = w.heap.size := ⟨_, rfl⟩
 rw [← eg] at HO2 ⊢
 have HG := Kp.mk (And.intro eg hz2)
 clear hv2 hb2 hz2 ho2 HH eg a6
 have a6 := h2.own.cell 6 (wcl_at x Z (by omega) (u := .int .i64 x.sent) rfl)
 rw [← ES0.out] at a6
 have f6 := h2.own.free 6
 have hw6 : wrap64 (s0 + 1) = s0 + 1 := by have := HS.out; have := ES0.out; unfold wrap64; omega
 have H2 := Kp.mk h2
 clear h2
 go_upto_region 2 with fail
 have h3 : Ww W (w2.setCell ⟨wb, 6, none⟩ (.int .i64 (s0 + 1))) wb Z { x with sent := s0 + 1 } := H2.out.cell 6 _ (wcl_setSent x Z (s0 + 1)) ⟨rfl, rfl, rfl, rfl⟩ ⟨rfl, rfl, rfl, rfl, rfl, rfl, rfl, rfl⟩
 have ho3 : Vb 51 (w2.setCell ⟨wb, 6, none⟩ (.int .i64 (s0 + 1))) g (ocl (barO s0) (.slice none 0 0)) := Vb.grown HO2.out (grownBy_set w2 wb 6 _) (vb_ne HO2.out H2.out.own (by decide))
 clear a6 f6 hw6 H2 HO2
 generalize w2.setCell ⟨wb, 6, none⟩ (.int .i64 (s0 + 1)) = u0 at *
 have hs0 := h3.own.cell 0 (wcl_at _ Z (by omega) (u := .pointer (some ⟨Z.lb, 0, none⟩)) rfl)
 have HU := Kp.mk h3
 clear h3
 go_upto_region 3 with fail
 refine wp_region_held_drew (S := fun X => Vb 51 X g (ocl (barO s0) (.slice none 0 0)) ∧ X.cell? ⟨wb, 0, none⟩ = some (.pointer (some ⟨Z.lb, 0, none⟩))) (by kernel_rfl) ⟨ho3, hs0⟩ (fun hS0 => ?_)
 have H4 := Kp.mk (HU.out.below (Below.refl _ u0).drew)
 clear ho3 hs0 HU
 generalize u0.drew = u at *
 refine tD 0 (.pointer (some ⟨wb, 0, none⟩)) 20 rfl rfl hS0 (fun _ _ => by go_simp) ?_
 try simp only [Act.put, zA, zB, zC]
 refine tD 1 (.pointer (some ⟨wb, 0, none⟩)) 21 rfl rfl hS0 (fun _ _ => by go_simp) ?_
 try simp only [Act.put, zA, zB, zC]
 refine tD 2 (.pointer (some ⟨wb, 0, none⟩)) 22 rfl rfl hS0 (fun _ _ => by go_simp) ?_
 try simp only [Act.put, zA, zB, zC]
 refine tD 3 (.pointer (some ⟨Z.lb, 0, none⟩)) 23 rfl rfl hS0 ?_ ?_
 ·rintro w' hq
  obtain ⟨_, hq2⟩ := hq
  go_simp
 try simp only [Act.put, zA, zB, zC]
 refine tD 4 (.agg #[.int .i64 6, .int .i64 s0, .int .i64 0, .int .i64 0, .int .i64 0, .int .i64 0, .int .i64 0, .int .i64 0, .int .i64 0, .int .u8 0, .int .u8 0, .int .u8 0, .int .u8 0, .int .u8 0, .int .u8 0, .slice none 0 0, .int .i64 0, .int .i64 0, .int .i64 0, .int .i64 0, .int .i64 0]) 24 rfl rfl hS0 ?_ ?_
 ·rintro w' hq
  exact exec_load_vb (vs := ocl (barO s0) (.slice none 0 0)) (.tmp 4) rfl rfl (hq.1) rfl agg_order
 try simp only [Act.put, zA, zB, zC]
 refine rD 5 rfl fun K hK => ?_
 try rw [if_pos (by rfl)]
 go_simp
 go_at_call 36
 refine (H4.out.ln.sendC (o := barO s0) (A := none) (n := 0) (c0 := 0) ⟨Ro.nil _ _, u8_barO s0⟩).mono ?_
 rintro en u5 ⟨rfl, q5, hl5, ht5⟩
 have h5 := H4.out.line hl5 ht5
 have hS5 : Vb 51 u5 g (ocl (barO s0) (.slice none 0 0)) ∧ u5.cell? ⟨wb, 0, none⟩ = some (.pointer (some ⟨Z.lb, 0, none⟩)) := ⟨(ht5.1.block g hS0.1.lt (H4.out.ln.nots hS0.1 (.inr (.inr (.inr rfl))))).trans hS0.1, h5.own.cell 0 (wcl_at _ _ (by omega) (u := .pointer (some ⟨Z.lb, 0, none⟩)) rfl)⟩
 have H5 := Kp.mk h5
 have HO5 := Kp.mk hS5.1
 clear hl5 ht5 h5
 refine hK.out _ _ hS5 (fun _ => ?_)
 clear hK
 try simp only [Act.put, zA, zB, zC]
 refine tD 6 (.bool (x.l.sendE (barO s0) == 0)) 26 rfl rfl hS5 (fun _ _ => by go_simp) ?_
 try simp only [Act.put, zA, zB, zC]
 refine wpAnyH_done (by kernel_rfl) ?_ _
 clear hS0 hS5 H4
 cases hz : (x.l.sendE (barO s0) == 0) with
 | false =>
  have HE2 := Kp.mk hz
  go_wp2_with fail
  refine bodyPost_ret (results_none rfl _ _ _) rfl ?_
  have e0 : ¬ x.l.sendE (barO x.sent) = 0 := by rw [← ES0.out]; simpa using HE2.out
  have hf := H5.out
  rw [ES0.out] at hf
  exact ⟨rfl, { Z with lq := q5, lc := Z.lc }, by unfold Wd.sendL; rw [if_neg e0]; exact hf⟩
 | true =>
  have HE2 := Kp.mk hz
  obtain ⟨r, her⟩ : ∃ r : Nat, x.l.e = (r : Int) := ⟨x.l.e.toNat, by have := HE.out; omega⟩
  have hr5 : r < 256 := by have := HE.out; omega
  have HRB := Kp.mk (And.intro her hr5)
  have hle : (x.l.send (barO s0)).e = (r : Int) := (send_e x.l _).trans her
  clear hz her
  go_upto_region 4 with fail
  have hd := (Below.refl u5.heap.size u5).drew
  have h6 := H5.out.below hd
  have ho6 : Vb 51 u5.drew g (ocl (barO s0) (.slice none 0 0)) := HO5.out.below hd HO5.out.lt
  generalize hy : ({ { x with sent := s0 + 1 } with l := x.l.send (barO s0) } : Wd) = y at *
  generalize hY : ({ Z with lq := q5, lc := Z.lc } : Wk) = Y at *
  have hlb : Y.lb = Z.lb := by rw [← hY]
  have HYL := Kp.mk (show y.l = x.l.send (barO s0) by rw [← hy])
  have HYR := Kp.mk (show y.rl = x.rl by rw [← hy])
  have HY := Kp.mk hy
  rw [← hlb]
  clear hy hY
  have hln := h6.ln
  have hc0 := h6.own.cell 0 (wcl_at _ Y (by omega) (u := .pointer (some ⟨Y.lb, 0, none⟩)) rfl)
  refine wp_region_held_drew (S := fun X => Vb 51 X g (ocl (barO s0) (.slice none 0 0)) ∧ X.cell? ⟨wb, 0, none⟩ = some (.pointer (some ⟨Y.lb, 0, none⟩)) ∧ LnS X Y.lb Y.lq Y.lc y.l) (by kernel_rfl) ⟨ho6, h6.own.cell 0 (wcl_at _ Y (by omega) rfl), h6.ln⟩ (fun _ => ?_)
  clear hd HO5 H5 hc0 hln
  generalize u5.drew = u at *
  have hSu : Vb 51 u g (ocl (barO s0) (.slice none 0 0)) ∧ u.cell? ⟨wb, 0, none⟩ = some (.pointer (some ⟨Y.lb, 0, none⟩)) ∧ LnS u Y.lb Y.lq Y.lc y.l := ⟨ho6, h6.own.cell 0 (wcl_at _ Y (by omega) rfl), h6.ln⟩
  have hbv := below_alloc u (.cells #[.int .i64 s0] 3)
  have h7 := h6.below hbv
  have ho7 := ho6.below hbv ho6.lt
  have hSv : Vb 51 (u.alloc (.cells #[.int .i64 s0] 3)) g (ocl (barO s0) (.slice none 0 0)) ∧ (u.alloc (.cells #[.int .i64 s0] 3)).cell? ⟨wb, 0, none⟩ = some (.pointer (some ⟨Y.lb, 0, none⟩)) ∧ LnS (u.alloc (.cells #[.int .i64 s0] 3)) Y.lb Y.lq Y.lc y.l := ⟨ho7, h7.own.cell 0 (wcl_at _ Y (by omega) rfl), h7.ln⟩
  obtain ⟨RA, RC, eR, _⟩ := (h6.rows r (by omega)).form
  have c7u := h6.own.cell (7 + r) (wcl_row _ Y (by omega))
  have c7v := h7.own.cell (7 + r) (wcl_row _ Y (by omega))
  rw [eR] at c7u c7v
  obtain ⟨A9, c9, z9, hrun, ho9, _, hC9, hln9, _, h9⟩ := h7.row 60 (r := r) (by omega) (ys := [s0]) (vd_lit 3 u [.int .i64 s0] (Nat.lt_succ_self _) (by simp)) (by have := HR.out r (by omega); rw [HYR.out]; simp; omega)
  have hor9 : Vb 51 z9 g (ocl (barO s0) (.slice none 0 0)) := (hC9.block g ho7.lt (fun e => by obtain ⟨cs, hv⟩ := (h7.rows r (by omega)).vb e; exact vb_ne hv ho7 (by decide) rfl)).trans ho7
  have hSz : Vb 51 z9 g (ocl (barO s0) (.slice none 0 0)) ∧ z9.cell? ⟨wb, 0, none⟩ = some (.pointer (some ⟨Y.lb, 0, none⟩)) ∧ LnS z9 Y.lb Y.lq Y.lc y.l := ⟨hor9, ho9.cell 0 (wcl_at _ Y (by omega) rfl), hln9⟩
  have d9 := ho9.cell (7 + r) (wcl_row _ Y (by omega))
  rw [eR] at d9 hrun
  have f9 := ho9.free (7 + r)
  have hor10 : Vb 51 (z9.setCell ⟨wb, 7 + r, none⟩ (.slice A9 ((y.rl r).length + 1) c9)) g (ocl (barO s0) (.slice none 0 0)) := Vb.grown hor9 (grownBy_set z9 wb (7 + r) _) (vb_ne hor9 ho9 (by decide))
  have hSe : Vb 51 (z9.setCell ⟨wb, 7 + r, none⟩ (.slice A9 ((y.rl r).length + 1) c9)) g (ocl (barO s0) (.slice none 0 0)) ∧ (z9.setCell ⟨wb, 7 + r, none⟩ (.slice A9 ((y.rl r).length + 1) c9)).cell? ⟨wb, 0, none⟩ = some (.pointer (some ⟨Y.lb, 0, none⟩)) ∧ LnS (z9.setCell ⟨wb, 7 + r, none⟩ (.slice A9 ((y.rl r).length + 1) c9)) Y.lb Y.lq Y.lc y.l := ⟨hor10, h9.own.cell 0 (wcl_at _ _ (by omega) rfl), h9.ln⟩
  have H9 := Kp.mk h9
  have hep : y.l.e = (r : Int) := by rw [HYL.out]; exact hle
  have hri : (r : Int) < 256 := by omega
  clear hor9 hor10 h9 hC9 ho9 hln9 h7 ho7 h6 ho6 hbv hle hlb
  refine tD 0 (.pointer (some ⟨wb, 0, none⟩)) 27 rfl rfl hSu (fun _ _ => by go_simp) ?_
  try simp only [Act.put, zA, zB, zC]
  refine tD 1 (.pointer (some ⟨wb, 0, none⟩)) 28 rfl rfl hSu (fun _ _ => by go_simp) ?_
  try simp only [Act.put, zA, zB, zC]
  refine tD 2 (.pointer (some ⟨wb, 0, none⟩)) 29 rfl rfl hSu (fun _ _ => by go_simp) ?_
  try simp only [Act.put, zA, zB, zC]
  refine tD 3 (.pointer (some ⟨wb, 0, none⟩)) 30 rfl rfl hSu (fun _ _ => by go_simp) ?_
  try simp only [Act.put, zA, zB, zC]
  refine tD 4 (.pointer (some ⟨Y.lb, 0, none⟩)) 31 rfl rfl hSu ?_ ?_
  ·rintro w' hq
   obtain ⟨_, hq2, _⟩ := hq
   go_simp
  try simp only [Act.put, zA, zB, zC]
  refine tD 6 (.pointer (some ⟨wb, 0, none⟩)) 33 rfl rfl hSu (fun _ _ => by go_simp) ?_
  try simp only [Act.put, zA, zB, zC]
  refine tD 7 (.pointer (some ⟨wb, 0, none⟩)) 34 rfl rfl hSu (fun _ _ => by go_simp) ?_
  try simp only [Act.put, zA, zB, zC]
  refine tD 8 (.pointer (some ⟨wb, 0, none⟩)) 35 rfl rfl hSu (fun _ _ => by go_simp) ?_
  try simp only [Act.put, zA, zB, zC]
  refine tD 9 (.pointer (some ⟨wb, 0, none⟩)) 36 rfl rfl hSu (fun _ _ => by go_simp) ?_
  try simp only [Act.put, zA, zB, zC]
  refine tD 10 (.pointer (some ⟨Y.lb, 0, none⟩)) 37 rfl rfl hSu ?_ ?_
  ·rintro w' hq
   obtain ⟨_, hq2, _⟩ := hq
   go_simp
  try simp only [Act.put, zA, zB, zC]
  refine tD 12 (.pointer (some ⟨wb, 0, none⟩)) 39 rfl rfl hSu (fun _ _ => by go_simp) ?_
  try simp only [Act.put, zA, zB, zC]
  refine tD 13 (.pointer (some ⟨wb, 7, none⟩)) 40 rfl rfl hSu (fun _ _ => by go_simp) ?_
  try simp only [Act.put, zA, zB, zC]
  refine tD 16 (.pointer (some ⟨g, 1, none⟩)) 43 rfl rfl hSu (fun _ _ => by go_simp) ?_
  try simp only [Act.put, zA, zB, zC]
  refine tD 17 (.int .i64 s0) 44 rfl rfl hSu ?_ ?_
  ·rintro w' hq
   have hq1 := hq.1.cell 1 (u := .int .i64 s0) rfl
   go_simp
  try simp only [Act.put, zA, zB, zC]
  refine tD 20 (.pointer (some ⟨wb, 0, none⟩)) 47 rfl rfl hSu (fun _ _ => by go_simp) ?_
  try simp only [Act.put, zA, zB, zC]
  refine tD 21 (.pointer (some ⟨wb, 7, none⟩)) 48 rfl rfl hSu (fun _ _ => by go_simp) ?_
  try simp only [Act.put, zA, zB, zC]
  have HEND := Kp.mk (show ∃ Z', Ww W (z9.setCell ⟨wb, 7 + r, none⟩ (.slice A9 ((y.rl r).length + 1) c9)) wb Z' x.sendL from ⟨_, by
   have hf := H9.out
   have e0 : x.l.sendE (barO x.sent) = 0 := by rw [← ES0.out]; simpa using HE2.out
   have e1 : x.sendL = { y with rl := updF y.rl r (y.rl r ++ [s0]) } := by
    unfold Wd.sendL
    rw [if_pos e0, ← HY.out, HRB.out.1, ES0.out]
    rfl
   rw [e1]
   exact hf⟩)
  refine wpAnyH_ready (rs := [5, 18]) (by kernel_rfl) (by simp) ?_
  refine AllReadyH.cons rfl (fun K hK => ?_) (AllReadyH.cons rfl (fun K hK => ?_) AllReadyH.nil)
  ·skip
   try rw [if_pos (by rfl)]
   go_simp
   go_at_call 19
   refine (hSu.2.2.epochC).mono ?_
   rintro en wx ⟨rfl, hwx⟩
   replace hwx := hwx.symm
   subst hwx
   rw [hep]
   refine hK.out _ _ hSu (fun _ => ?_)
   clear hK K
   try simp only [Act.put, zA, zB, zC]
   refine wpAnyH_ready (rs := [11, 18]) (by kernel_rfl) (by simp) ?_
   refine AllReadyH.cons rfl (fun K hK => ?_) (AllReadyH.cons rfl (fun K hK => ?_) AllReadyH.nil)
   ·skip
    try rw [if_pos (by rfl)]
    go_simp
    go_at_call 19
    refine (hSu.2.2.epochC).mono ?_
    rintro en wx ⟨rfl, hwx⟩
    replace hwx := hwx.symm
    subst hwx
    rw [hep]
    refine hK.out _ _ hSu (fun _ => ?_)
    clear hK K
    try simp only [Act.put, zA, zB, zC]
    refine tD 14 (.pointer (some ⟨wb, 7 + r, none⟩)) 41 rfl rfl hSu (fun _ _ => by go_simp) ?_
    try simp only [Act.put, zA, zB, zC]
    refine wpAnyH_ready (rs := [15, 18]) (by kernel_rfl) (by simp) ?_
    refine AllReadyH.cons rfl (fun K hK => ?_) (AllReadyH.cons rfl (fun K hK => ?_) AllReadyH.nil)
    ·skip
     try rw [if_pos (by rfl)]
     go_simp
     refine hK.out _ _ hSu (fun _ => ?_)
     clear hK K
     try simp only [Act.put, zA, zB, zC]
     refine rD 18 rfl fun K hK => ?_
     try rw [if_pos (by rfl)]
     go_simp
     refine hK.out _ _ hSv (fun _ => ?_)
     clear hK K
     try simp only [Act.put, zA, zB, zC]
     refine rD 19 rfl fun K hK => ?_
     try rw [if_pos (by rfl)]
     refine sndOp_append (.tmp 42) (.tmp 45) rfl rfl rfl hrun (hK.out _ _ hSz (fun _ => ?_))
     clear hK K
     try simp only [Act.put, zA, zB, zC]
     refine tD 22 (.pointer (some ⟨wb, 7 + r, none⟩)) 49 rfl rfl hSz (fun _ _ => by go_simp) ?_
     try simp only [Act.put, zA, zB, zC]
     refine rD 23 rfl fun K hK => ?_
     try rw [if_pos (by rfl)]
     go_simp
     refine hK.out _ _ hSe (fun _ => ?_)
     clear hK K
     try simp only [Act.put, zA, zB, zC]
     refine wpAnyH_done (by kernel_rfl) ?_ _
     clear hSu hSv hSz hSe c7u c7v hrun d9 f9
     go_wp2_with fail
     refine bodyPost_ret (results_none rfl _ _ _) rfl ?_
     exact ⟨rfl, HEND.out⟩
    ·skip
     try rw [if_pos (by rfl)]
     go_simp
     refine hK.out _ _ hSv (fun _ => ?_)
     clear hK K
     try simp only [Act.put, zA, zB, zC]
     refine rD 15 rfl fun K hK => ?_
     try rw [if_pos (by rfl)]
     go_simp
     refine hK.out _ _ hSv (fun _ => ?_)
     clear hK K
     try simp only [Act.put, zA, zB, zC]
     refine rD 19 rfl fun K hK => ?_
     try rw [if_pos (by rfl)]
     refine sndOp_append (.tmp 42) (.tmp 45) rfl rfl rfl hrun (hK.out _ _ hSz (fun _ => ?_))
     clear hK K
     try simp only [Act.put, zA, zB, zC]
     refine tD 22 (.pointer (some ⟨wb, 7 + r, none⟩)) 49 rfl rfl hSz (fun _ _ => by go_simp) ?_
     try simp only [Act.put, zA, zB, zC]
     refine rD 23 rfl fun K hK => ?_
     try rw [if_pos (by rfl)]
     go_simp
     refine hK.out _ _ hSe (fun _ => ?_)
     clear hK K
     try simp only [Act.put, zA, zB, zC]
     refine wpAnyH_done (by kernel_rfl) ?_ _
     clear hSu hSv hSz hSe c7u c7v hrun d9 f9
     go_wp2_with fail
     refine bodyPost_ret (results_none rfl _ _ _) rfl ?_
     exact ⟨rfl, HEND.out⟩
   ·skip
    try rw [if_pos (by rfl)]
    go_simp
    refine hK.out _ _ hSv (fun _ => ?_)
    clear hK K
    try simp only [Act.put, zA, zB, zC]
    refine rD 11 rfl fun K hK => ?_
    try rw [if_pos (by rfl)]
    go_simp
    go_at_call 19
    refine (hSv.2.2.epochC).mono ?_
    rintro en wx ⟨rfl, hwx⟩
    replace hwx := hwx.symm
    subst hwx
    rw [hep]
    refine hK.out _ _ hSv (fun _ => ?_)
    clear hK K
    try simp only [Act.put, zA, zB, zC]
    refine tD 14 (.pointer (some ⟨wb, 7 + r, none⟩)) 41 rfl rfl hSv (fun _ _ => by go_simp) ?_
    try simp only [Act.put, zA, zB, zC]
    refine rD 15 rfl fun K hK => ?_
    try rw [if_pos (by rfl)]
    go_simp
    refine hK.out _ _ hSv (fun _ => ?_)
    clear hK K
    try simp only [Act.put, zA, zB, zC]
    refine rD 19 rfl fun K hK => ?_
    try rw [if_pos (by rfl)]
    refine sndOp_append (.tmp 42) (.tmp 45) rfl rfl rfl hrun (hK.out _ _ hSz (fun _ => ?_))
    clear hK K
    try simp only [Act.put, zA, zB, zC]
    refine tD 22 (.pointer (some ⟨wb, 7 + r, none⟩)) 49 rfl rfl hSz (fun _ _ => by go_simp) ?_
    try simp only [Act.put, zA, zB, zC]
    refine rD 23 rfl fun K hK => ?_
    try rw [if_pos (by rfl)]
    go_simp
    refine hK.out _ _ hSe (fun _ => ?_)
    clear hK K
    try simp only [Act.put, zA, zB, zC]
    refine wpAnyH_done (by kernel_rfl) ?_ _
    clear hSu hSv hSz hSe c7u c7v hrun d9 f9
    go_wp2_with fail
    refine bodyPost_ret (results_none rfl _ _ _) rfl ?_
    exact ⟨rfl, HEND.out⟩
  ·skip
   try rw [if_pos (by rfl)]
   go_simp
   refine hK.out _ _ hSv (fun _ => ?_)
   clear hK K
   try simp only [Act.put, zA, zB, zC]
   refine rD 5 rfl fun K hK => ?_
   try rw [if_pos (by rfl)]
   go_simp
   go_at_call 19
   refine (hSv.2.2.epochC).mono ?_
   rintro en wx ⟨rfl, hwx⟩
   replace hwx := hwx.symm
   subst hwx
   rw [hep]
   refine hK.out _ _ hSv (fun _ => ?_)
   clear hK K
   try simp only [Act.put, zA, zB, zC]
   refine rD 11 rfl fun K hK => ?_
   try rw [if_pos (by rfl)]
   go_simp
   go_at_call 19
   refine (hSv.2.2.epochC).mono ?_
   rintro en wx ⟨rfl, hwx⟩
   replace hwx := hwx.symm
   subst hwx
   rw [hep]
   refine hK.out _ _ hSv (fun _ => ?_)
   clear hK K
   try simp only [Act.put, zA, zB, zC]
   refine tD 14 (.pointer (some ⟨wb, 7 + r, none⟩)) 41 rfl rfl hSv (fun _ _ => by go_simp) ?_
   try simp only [Act.put, zA, zB, zC]
   refine rD 15 rfl fun K hK => ?_
   try rw [if_pos (by rfl)]
   go_simp
   refine hK.out _ _ hSv (fun _ => ?_)
   clear hK K
   try simp only [Act.put, zA, zB, zC]
   refine rD 19 rfl fun K hK => ?_
   try rw [if_pos (by rfl)]
   refine sndOp_append (.tmp 42) (.tmp 45) rfl rfl rfl hrun (hK.out _ _ hSz (fun _ => ?_))
   clear hK K
   try simp only [Act.put, zA, zB, zC]
   refine tD 22 (.pointer (some ⟨wb, 7 + r, none⟩)) 49 rfl rfl hSz (fun _ _ => by go_simp) ?_
   try simp only [Act.put, zA, zB, zC]
   refine rD 23 rfl fun K hK => ?_
   try rw [if_pos (by rfl)]
   go_simp
   refine hK.out _ _ hSe (fun _ => ?_)
   clear hK K
   try simp only [Act.put, zA, zB, zC]
   refine wpAnyH_done (by kernel_rfl) ?_ _
   clear hSu hSv hSz hSe c7u c7v hrun d9 f9
   go_wp2_with fail
   refine bodyPost_ret (results_none rfl _ _ _) rfl ?_
   exact ⟨rfl, HEND.out⟩
end
def Wd.sendP (x : Wd) : Wd := { x with p := x.p.send (barO x.sent), sent := x.sent + 1, rl := if x.p.sendE (barO x.sent) = 0 then updF x.rl (256 + (x.p.e % 256).toNat) (x.rl (256 + (x.p.e % 256).toNat) ++ [x.sent]) else x.rl }
section
variable {W w w' : World} {wb : Nat} {Z : Wk} {x : Wd}
theorem sendsP_any (h : Ww W w wb Z x) (hs : 0 ≤ x.sent ∧ x.sent ≤ 1000000) (hr : ∀ r, r < 512 → (x.rl r).length ≤ 1000000) : Calls Tryz.prog 32 #[.pointer (some ⟨wb, 0, none⟩), .bool false] w fun en w' => en = .returned (.tuple #[]) ∧ ∃ Z', Ww W w' wb Z' x.sendP := by
 have a6 := h.own.cell 6 (wcl_at x Z (by omega) (u := .int .i64 x.sent) rfl)
 have HH := Kp.mk h
 have HS := Kp.mk hs
 have HR := Kp.mk hr
 clear h hs hr
 go_enter Tryz.func32, Tryz.ntmps32
 obtain ⟨s0, es0⟩ : ∃ s0, s0 = x.sent := ⟨_, rfl⟩
 rw [← es0] at a6
 have ES0 := Kp.mk es0
 clear es0
 go_upto_region 1 with (refine wpList_store_new (vs := [.int .i64 6, .int .i64 s0, .int .i64 0, .int .i64 0, .int .i64 0, .int .i64 0, .int .i64 0, .int .i64 0, .int .i64 0, .int .u8 0, .int .u8 0, .int .u8 0, .int .u8 0, .int .u8 0, .int .u8 0, .slice none 0 0, .int .i64 0, .int .i64 0, .int .i64 0, .int .i64 0, .int .i64 0]) rfl (.tmp 4) (.tmp 10) rfl rfl rfl rfl rfl rfl agg_order rfl ?_; intro w2 hv2 hb2 hz2)
 have ho2 : Vb 51 w2 w.heap.size (ocl (barO s0) (.slice none 0 0)) := hv2
 have h2 := HH.out.below hb2
 have HO2 := Kp.mk ho2
 obtain ⟨g, eg⟩ : ∃ g, g = w.heap.size := ⟨_, rfl⟩
 rw [← eg] at HO2 ⊢
 have HG := Kp.mk (And.intro eg hz2)
 clear hv2 hb2 hz2 ho2 HH eg a6
 have a6 := h2.own.cell 6 (wcl_at x Z (by omega) (u := .int .i64 x.sent) rfl)
 rw [← ES0.out] at a6
 have f6 := h2.own.free 6
 have hw6 : wrap64 (s0 + 1) = s0 + 1 := by have := HS.out; have := ES0.out; unfold wrap64; omega
 have H2 := Kp.mk h2
 clear h2
 go_upto_region 2 with fail
 have h3 : Ww W (w2.setCell ⟨wb, 6, none⟩ (.int .i64 (s0 + 1))) wb Z { x with sent := s0 + 1 } := H2.out.cell 6 _ (wcl_setSent x Z (s0 + 1)) ⟨rfl, rfl, rfl, rfl⟩ ⟨rfl, rfl, rfl, rfl, rfl, rfl, rfl, rfl⟩
 have ho3 : Vb 51 (w2.setCell ⟨wb, 6, none⟩ (.int .i64 (s0 + 1))) g (ocl (barO s0) (.slice none 0 0)) := Vb.grown HO2.out (grownBy_set w2 wb 6 _) (vb_ne HO2.out H2.out.own (by decide))
 clear a6 f6 hw6 H2 HO2
 generalize w2.setCell ⟨wb, 6, none⟩ (.int .i64 (s0 + 1)) = u0 at *
 have hs0 := h3.own.cell 1 (wcl_at _ Z (by omega) (u := .pointer (some ⟨Z.pb, 0, none⟩)) rfl)
 have HU := Kp.mk h3
 have hepc := h3.pn.epochC
 have hbr := Ser.bring_any x.p.e 256 u0 (by omega) (by omega)
 have hbx := Ser.bringP_bd x.p.e 256 (by omega)
 have HBX := Kp.mk (show Ser.bringP x.p.e 256 = x.p.e % 256 from rfl)
 generalize Ser.bringP x.p.e 256 = e at *
 obtain ⟨r, her⟩ : ∃ r : Nat, e = (r : Int) := ⟨e.toNat, by omega⟩
 have hr5 : r < 256 := by omega
 subst her
 have HRB := Kp.mk (And.intro HBX.out hr5)
 clear h3 HBX hbx
 go_upto_region 6 with (first | (go_at_call 25; refine hepc.mono ?_; rintro en wx ⟨rfl, hwx⟩; replace hwx := hwx.symm; subst hwx) | (refine hbr.mono ?_; rintro en wx ⟨rfl, hwx⟩; subst hwx))
 clear hepc hbr
 refine wp_region_held_drew (S := fun X => Vb 51 X g (ocl (barO s0) (.slice none 0 0)) ∧ X.cell? ⟨wb, 1, none⟩ = some (.pointer (some ⟨Z.pb, 0, none⟩))) (by kernel_rfl) ⟨ho3, hs0⟩ (fun hS0 => ?_)
 have H4 := Kp.mk (HU.out.below (Below.refl _ u0).drew)
 clear ho3 hs0 HU
 generalize u0.drew = u at *
 refine tD 0 (.pointer (some ⟨wb, 0, none⟩)) 56 rfl rfl hS0 (fun _ _ => by go_simp) ?_
 try simp only [Act.put, zA, zB, zC]
 refine tD 1 (.pointer (some ⟨wb, 0, none⟩)) 57 rfl rfl hS0 (fun _ _ => by go_simp) ?_
 try simp only [Act.put, zA, zB, zC]
 refine tD 2 (.pointer (some ⟨wb, 1, none⟩)) 58 rfl rfl hS0 (fun _ _ => by go_simp) ?_
 try simp only [Act.put, zA, zB, zC]
 refine tD 3 (.pointer (some ⟨Z.pb, 0, none⟩)) 59 rfl rfl hS0 ?_ ?_
 ·rintro w' hq
  obtain ⟨_, hq2⟩ := hq
  go_simp
 try simp only [Act.put, zA, zB, zC]
 refine tD 4 (.agg #[.int .i64 6, .int .i64 s0, .int .i64 0, .int .i64 0, .int .i64 0, .int .i64 0, .int .i64 0, .int .i64 0, .int .i64 0, .int .u8 0, .int .u8 0, .int .u8 0, .int .u8 0, .int .u8 0, .int .u8 0, .slice none 0 0, .int .i64 0, .int .i64 0, .int .i64 0, .int .i64 0, .int .i64 0]) 60 rfl rfl hS0 ?_ ?_
 ·rintro w' hq
  exact exec_load_vb (vs := ocl (barO s0) (.slice none 0 0)) (.tmp 4) rfl rfl (hq.1) rfl agg_order
 try simp only [Act.put, zA, zB, zC]
 refine rD 5 rfl fun K hK => ?_
 try rw [if_pos (by rfl)]
 go_simp
 go_at_call 39
 refine (H4.out.pn.sendC (o := barO s0) (A := none) (n := 0) (c0 := 0) ⟨Ro.nil _ _, u8_barO s0⟩).mono ?_
 rintro en u5 ⟨rfl, q5, hl5, ht5⟩
 have h5 := H4.out.port hl5 ht5
 have hS5 : Vb 51 u5 g (ocl (barO s0) (.slice none 0 0)) ∧ u5.cell? ⟨wb, 1, none⟩ = some (.pointer (some ⟨Z.pb, 0, none⟩)) := ⟨(ht5.1.block g hS0.1.lt (H4.out.pn.nots hS0.1 (.inr (.inr (.inr rfl))))).trans hS0.1, h5.own.cell 1 (wcl_at _ _ (by omega) (u := .pointer (some ⟨Z.pb, 0, none⟩)) rfl)⟩
 have H5 := Kp.mk h5
 have HO5 := Kp.mk hS5.1
 clear hl5 ht5 h5
 refine hK.out _ _ hS5 (fun _ => ?_)
 clear hK
 try simp only [Act.put, zA, zB, zC]
 refine tD 6 (.bool (x.p.sendE (barO s0) == 0)) 62 rfl rfl hS5 (fun _ _ => by go_simp) ?_
 try simp only [Act.put, zA, zB, zC]
 refine wpAnyH_done (by kernel_rfl) ?_ _
 clear hS0 hS5 H4
 cases hz : (x.p.sendE (barO s0) == 0) with
 | false =>
  have HE2 := Kp.mk hz
  go_wp2_with fail
  go_end0
  have e0 : ¬ x.p.sendE (barO x.sent) = 0 := by rw [← ES0.out]; simpa using HE2.out
  have hf := H5.out
  rw [ES0.out] at hf
  exact ⟨rfl, { Z with pq := q5 }, by unfold Wd.sendP; rw [if_neg e0]; exact hf⟩
 | true =>
  have HE2 := Kp.mk hz
  clear hz
  go_upto_region 7 with fail
  have hd := (Below.refl u5.heap.size u5).drew
  have h6 := H5.out.below hd
  have ho6 : Vb 51 u5.drew g (ocl (barO s0) (.slice none 0 0)) := HO5.out.below hd HO5.out.lt
  generalize hy : ({ { x with sent := s0 + 1 } with p := x.p.send (barO s0) } : Wd) = y at *
  generalize hY : ({ Z with pq := q5 } : Wk) = Y at *
  have HYR := Kp.mk (show y.rl = x.rl by rw [← hy])
  have HY := Kp.mk hy
  clear hy hY
  refine wp_region_held_drew (S := fun X => Vb 51 X g (ocl (barO s0) (.slice none 0 0))) (by kernel_rfl) ho6 (fun _ => ?_)
  clear hd HO5 H5
  generalize u5.drew = u at *
  have hSu : Vb 51 u g (ocl (barO s0) (.slice none 0 0)) := ho6
  have hbv := below_alloc u (.cells #[.int .i64 s0] 3)
  have h7 := h6.below hbv
  have hSv : Vb 51 (u.alloc (.cells #[.int .i64 s0] 3)) g (ocl (barO s0) (.slice none 0 0)) := ho6.below hbv ho6.lt
  obtain ⟨RA, RC, eR, _⟩ := (h6.rows (256 + r) (by omega)).form
  have c7u := h6.own.cell (7 + (256 + r)) (wcl_row _ Y (by omega))
  have c7v := h7.own.cell (7 + (256 + r)) (wcl_row _ Y (by omega))
  rw [eR] at c7u c7v
  obtain ⟨A9, c9, z9, hrun, ho9, _, hC9, _, _, h9⟩ := h7.row 60 (r := 256 + r) (by omega) (ys := [s0]) (vd_lit 3 u [.int .i64 s0] (Nat.lt_succ_self _) (by simp)) (by have := HR.out (256 + r) (by omega); rw [HYR.out]; simp; omega)
  have hSz : Vb 51 z9 g (ocl (barO s0) (.slice none 0 0)) := (hC9.block g hSv.lt (fun e => by obtain ⟨cs, hv⟩ := (h7.rows (256 + r) (by omega)).vb e; exact vb_ne hv hSv (by decide) rfl)).trans hSv
  have d9 := ho9.cell (7 + (256 + r)) (wcl_row _ Y (by omega))
  rw [eR] at d9 hrun
  have f9 := ho9.free (7 + (256 + r))
  have hSe : Vb 51 (z9.setCell ⟨wb, 7 + (256 + r), none⟩ (.slice A9 ((y.rl (256 + r)).length + 1) c9)) g (ocl (barO s0) (.slice none 0 0)) := Vb.grown hSz (grownBy_set z9 wb (7 + (256 + r)) _) (vb_ne hSz ho9 (by decide))
  have HEND := Kp.mk (show ∃ Z', Ww W (z9.setCell ⟨wb, 7 + (256 + r), none⟩ (.slice A9 ((y.rl (256 + r)).length + 1) c9)) wb Z' x.sendP from ⟨_, by
   have hf := h9
   have e0 : x.p.sendE (barO x.sent) = 0 := by rw [← ES0.out]; simpa using HE2.out
   have e1 : x.sendP = { y with rl := updF y.rl (256 + r) (y.rl (256 + r) ++ [s0]) } := by
    unfold Wd.sendP
    rw [if_pos e0, ← HY.out, ← HRB.out.1, ES0.out]
    rfl
   rw [e1]
   exact hf⟩)
  have hri : (r : Int) < 256 := by omega
  have e263 : 7 + (256 + r) = 263 + r := by omega
  rw [e263] at c7u c7v d9 f9 hSe HEND
  clear h9 hC9 ho9 h7 h6 ho6 hbv e263 hr5
  refine tD 0 (.pointer (some ⟨wb, 0, none⟩)) 63 rfl rfl hSu (fun _ _ => by go_simp) ?_
  try simp only [Act.put, zA, zB, zC]
  refine tD 1 (.int .i64 r) 64 rfl rfl hSu (fun _ _ => by go_simp) ?_
  try simp only [Act.put, zA, zB, zC]
  refine tD 2 (.pointer (some ⟨wb, 0, none⟩)) 65 rfl rfl hSu (fun _ _ => by go_simp) ?_
  try simp only [Act.put, zA, zB, zC]
  refine tD 3 (.int .i64 r) 66 rfl rfl hSu (fun _ _ => by go_simp) ?_
  try simp only [Act.put, zA, zB, zC]
  refine tD 4 (.pointer (some ⟨wb, 0, none⟩)) 67 rfl rfl hSu (fun _ _ => by go_simp) ?_
  try simp only [Act.put, zA, zB, zC]
  refine tD 5 (.pointer (some ⟨wb, 263, none⟩)) 68 rfl rfl hSu (fun _ _ => by go_simp) ?_
  try simp only [Act.put, zA, zB, zC]
  refine tD 6 (.pointer (some ⟨wb, 263 + r, none⟩)) 69 rfl rfl hSu (fun _ _ => by go_simp) ?_
  try simp only [Act.put, zA, zB, zC]
  refine tD 8 (.pointer (some ⟨g, 1, none⟩)) 71 rfl rfl hSu (fun _ _ => by go_simp) ?_
  try simp only [Act.put, zA, zB, zC]
  refine tD 9 (.int .i64 s0) 72 rfl rfl hSu ?_ ?_
  ·rintro w' hq
   have hq1 := hq.cell 1 (u := .int .i64 s0) rfl
   go_simp
  try simp only [Act.put, zA, zB, zC]
  refine tD 12 (.pointer (some ⟨wb, 0, none⟩)) 75 rfl rfl hSu (fun _ _ => by go_simp) ?_
  try simp only [Act.put, zA, zB, zC]
  refine tD 13 (.pointer (some ⟨wb, 263, none⟩)) 76 rfl rfl hSu (fun _ _ => by go_simp) ?_
  try simp only [Act.put, zA, zB, zC]
  refine wpAnyH_ready (rs := [7, 10]) (by kernel_rfl) (by simp) ?_
  refine AllReadyH.cons rfl (fun K hK => ?_) (AllReadyH.cons rfl (fun K hK => ?_) AllReadyH.nil)
  ·skip
   try rw [if_pos (by rfl)]
   go_simp
   refine hK.out _ _ hSu (fun _ => ?_)
   clear hK K
   try simp only [Act.put, zA, zB, zC]
   refine rD 10 rfl fun K hK => ?_
   try rw [if_pos (by rfl)]
   go_simp
   refine hK.out _ _ hSv (fun _ => ?_)
   clear hK K
   try simp only [Act.put, zA, zB, zC]
   refine rD 11 rfl fun K hK => ?_
   try rw [if_pos (by rfl)]
   refine sndOp_append (.tmp 70) (.tmp 73) rfl rfl rfl hrun (hK.out _ _ hSz (fun _ => ?_))
   clear hK K
   try simp only [Act.put, zA, zB, zC]
   refine tD 14 (.pointer (some ⟨wb, 263 + r, none⟩)) 77 rfl rfl hSz (fun _ _ => by go_simp) ?_
   try simp only [Act.put, zA, zB, zC]
   refine rD 15 rfl fun K hK => ?_
   try rw [if_pos (by rfl)]
   go_simp
   refine hK.out _ _ hSe (fun _ => ?_)
   clear hK K
   try simp only [Act.put, zA, zB, zC]
   refine wpAnyH_done (by kernel_rfl) ?_ _
   clear hSu hSv hSz hSe c7u c7v hrun d9 f9
   go_wp2_with fail
   go_end0
   exact ⟨rfl, HEND.out⟩
  ·skip
   try rw [if_pos (by rfl)]
   go_simp
   refine hK.out _ _ hSv (fun _ => ?_)
   clear hK K
   try simp only [Act.put, zA, zB, zC]
   refine rD 7 rfl fun K hK => ?_
   try rw [if_pos (by rfl)]
   go_simp
   refine hK.out _ _ hSv (fun _ => ?_)
   clear hK K
   try simp only [Act.put, zA, zB, zC]
   refine rD 11 rfl fun K hK => ?_
   try rw [if_pos (by rfl)]
   refine sndOp_append (.tmp 70) (.tmp 73) rfl rfl rfl hrun (hK.out _ _ hSz (fun _ => ?_))
   clear hK K
   try simp only [Act.put, zA, zB, zC]
   refine tD 14 (.pointer (some ⟨wb, 263 + r, none⟩)) 77 rfl rfl hSz (fun _ _ => by go_simp) ?_
   try simp only [Act.put, zA, zB, zC]
   refine rD 15 rfl fun K hK => ?_
   try rw [if_pos (by rfl)]
   go_simp
   refine hK.out _ _ hSe (fun _ => ?_)
   clear hK K
   try simp only [Act.put, zA, zB, zC]
   refine wpAnyH_done (by kernel_rfl) ?_ _
   clear hSu hSv hSz hSe c7u c7v hrun d9 f9
   go_wp2_with fail
   go_end0
   exact ⟨rfl, HEND.out⟩
end
def Wd.comesL (x : Wd) (s : Sa) : Wd := ({ x with l := x.l.take s.ms x.now } : Wd).got (256 + x.l.e.toNat) (x.gt (256 + x.l.e.toNat) + (tells (x.l.gets s.ms x.now)).length)
section
variable {W w w' : World} {wb : Nat} {Z : Wk} {x : Wd}
theorem comesL_wt (h : Ww W w wb Z x) {m : Ms} (hm : Mok w m) (ht : m.x.t = 0) (he : 0 ≤ x.l.e ∧ x.l.e < 256) (hF : Follow (x.rl (256 + x.l.e.toNat)) (x.gt (256 + x.l.e.toNat)) (tells (x.l.gets m.abs.ms x.now))) : Calls Tryz.prog 33 #[.pointer (some ⟨wb, 0, none⟩), m.x.v] w fun en w' => en = .returned (.tuple #[]) ∧ ∃ K', Ww W w' wb K' (x.comesL m.abs) ∧ WT w w' wb Z K' := by
 have HHM := Kp.mk hm
 have HFF := Kp.mk hF
 obtain ⟨r, her⟩ : ∃ r : Nat, x.l.e = (r : Int) := ⟨x.l.e.toNat, by omega⟩
 have hr5 : r < 256 := by omega
 have HRB := Kp.mk (And.intro her hr5)
 have HMM := Kp.mk (show ∃ m', m' = m from ⟨m, rfl⟩)
 obtain ⟨⟨k, t, f, hp, p, o, s, a, A, n, cc⟩, ml⟩ := m
 have ht : t = 0 := ht
 subst ht
 simp only [Sv.v]
 clear hm hF he HMM
 go_enter Tryz.func33, Tryz.ntmps33
 go_upto_region 1 with fail
 have hb0 := below_alloc w (.cells #[.int .i64 k, .int .i64 0, .int .i64 f, .int .i64 hp, .int .i64 p, .int .i64 o, .int .i64 s, .int .i64 a, .slice A n cc] 54)
 have HB0 := Kp.mk hb0
 have hv0 : Vb 54 (w.alloc (.cells #[.int .i64 k, .int .i64 0, .int .i64 f, .int .i64 hp, .int .i64 p, .int .i64 o, .int .i64 s, .int .i64 a, .slice A n cc] 54)) w.heap.size [.int .i64 k, .int .i64 0, .int .i64 f, .int .i64 hp, .int .i64 p, .int .i64 o, .int .i64 s, .int .i64 a, .slice A n cc] := Vb.new _ w _
 have h0 := h.below hb0
 have HM0 := Kp.mk (show Mok (w.alloc (.cells #[.int .i64 k, .int .i64 0, .int .i64 f, .int .i64 hp, .int .i64 p, .int .i64 o, .int .i64 s, .int .i64 a, .slice A n cc] 54)) ⟨⟨k, 0, f, hp, p, o, s, a, A, n, cc⟩, ml⟩ from HHM.out.below hb0)
 obtain ⟨gs, egs⟩ : ∃ gs, gs = w.heap.size := ⟨_, rfl⟩
 rw [← egs] at hv0 ⊢
 clear egs h hb0 HHM
 generalize w.alloc (.cells #[.int .i64 k, .int .i64 0, .int .i64 f, .int .i64 hp, .int .i64 p, .int .i64 o, .int .i64 s, .int .i64 a, .slice A n cc] 54) = w0 at *
 have k1 := hv0.cell 1 (u := .int .i64 0) rfl
 have a0 := h0.own.cell 0 (wcl_at _ Z (by omega) (u := .pointer (some ⟨Z.lb, 0, none⟩)) rfl)
 have hep := h0.ln.epochC
 rw [her] at hep
 have H0 := Kp.mk h0
 have HV0 := Kp.mk hv0
 clear h0 hv0 her
 go_upto_region 3 with (go_at_call 19; refine hep.mono ?_; rintro en wx ⟨rfl, hwx⟩; replace hwx := hwx.symm; subst hwx)
 clear k1 a0 hep
 have hd := (Below.refl w0.heap.size w0).drew
 have HD := Kp.mk hd
 have h1 := H0.out.below hd
 have hv1 := HV0.out.below hd HV0.out.lt
 have HM1 := Kp.mk (show Mok w0.drew ⟨⟨k, 0, f, hp, p, o, s, a, A, n, cc⟩, ml⟩ from HM0.out.below hd)
 have hrow : ∀ {X : World} {Y : Wk} {y : Wd}, Ww W X wb Y y → X.cell? ⟨wb, 263 + r, none⟩ = some (Y.rv (256 + r)) := fun {X Y y} hX => by
  have := hX.own.cell (7 + (256 + r)) (wcl_row _ Y (by omega))
  rw [show 7 + (256 + r) = 263 + r by omega] at this
  exact this
 refine wp_region_held_drew (S := fun X => Vb 54 X gs [.int .i64 k, .int .i64 0, .int .i64 f, .int .i64 hp, .int .i64 p, .int .i64 o, .int .i64 s, .int .i64 a, .slice A n cc] ∧ X.cell? ⟨wb, 0, none⟩ = some (.pointer (some ⟨Z.lb, 0, none⟩)) ∧ X.cell? ⟨wb, 2, none⟩ = some (.int .i64 x.now) ∧ X.cell? ⟨wb, 263 + r, none⟩ = some (Z.rv (256 + r))) (by kernel_rfl) ⟨hv1, h1.own.cell 0 (wcl_at _ Z (by omega) rfl), h1.own.cell 2 (wcl_at _ Z (by omega) rfl), hrow h1⟩ (fun hSu => ?_)
 have H1 := Kp.mk h1
 have HROW := Kp.mk @hrow
 have hri : (r : Int) < 256 := by omega
 clear hd h1 hv1 H0 HV0 HM0 hrow hr5
 generalize w0.drew = u at *
 refine tD 0 (.pointer (some ⟨wb, 0, none⟩)) 17 rfl rfl hSu (fun _ _ => by go_simp) ?_
 try simp only [Act.put, zA, zB, zC]
 refine tD 1 (.pointer (some ⟨wb, 0, none⟩)) 18 rfl rfl hSu (fun _ _ => by go_simp) ?_
 try simp only [Act.put, zA, zB, zC]
 refine tD 2 (.pointer (some ⟨wb, 0, none⟩)) 19 rfl rfl hSu (fun _ _ => by go_simp) ?_
 try simp only [Act.put, zA, zB, zC]
 refine tD 3 (.pointer (some ⟨wb, 0, none⟩)) 20 rfl rfl hSu (fun _ _ => by go_simp) ?_
 try simp only [Act.put, zA, zB, zC]
 refine tD 4 (.pointer (some ⟨Z.lb, 0, none⟩)) 21 rfl rfl hSu ?_ ?_
 ·rintro w' hq
  obtain ⟨_, hq2, hq3, hq4⟩ := hq
  go_simp
 try simp only [Act.put, zA, zB, zC]
 refine tD 5 (.agg #[.int .i64 k, .int .i64 0, .int .i64 f, .int .i64 hp, .int .i64 p, .int .i64 o, .int .i64 s, .int .i64 a, .slice A n cc]) 22 rfl rfl hSu ?_ ?_
 ·rintro w' hq
  exact exec_load_vb (vs := [.int .i64 k, .int .i64 0, .int .i64 f, .int .i64 hp, .int .i64 p, .int .i64 o, .int .i64 s, .int .i64 a, .slice A n cc]) (.tmp 3) rfl rfl (hq.1) rfl agg_seg
 try simp only [Act.put, zA, zB, zC]
 refine tD 6 (.pointer (some ⟨wb, 0, none⟩)) 23 rfl rfl hSu (fun _ _ => by go_simp) ?_
 try simp only [Act.put, zA, zB, zC]
 refine tD 7 (.pointer (some ⟨wb, 0, none⟩)) 24 rfl rfl hSu (fun _ _ => by go_simp) ?_
 try simp only [Act.put, zA, zB, zC]
 refine tD 8 (.pointer (some ⟨wb, 2, none⟩)) 25 rfl rfl hSu (fun _ _ => by go_simp) ?_
 try simp only [Act.put, zA, zB, zC]
 refine tD 9 (.int .i64 x.now) 26 rfl rfl hSu ?_ ?_
 ·rintro w' hq
  obtain ⟨_, hq2, hq3, hq4⟩ := hq
  go_simp
 try simp only [Act.put, zA, zB, zC]
 refine tD 11 (.pointer (some ⟨wb, 0, none⟩)) 28 rfl rfl hSu (fun _ _ => by go_simp) ?_
 try simp only [Act.put, zA, zB, zC]
 refine tD 12 (.int .i64 r) 29 rfl rfl hSu (fun _ _ => by go_simp) ?_
 try simp only [Act.put, zA, zB, zC]
 refine tD 13 (.pointer (some ⟨wb, 0, none⟩)) 30 rfl rfl hSu (fun _ _ => by go_simp) ?_
 try simp only [Act.put, zA, zB, zC]
 refine tD 14 (.pointer (some ⟨wb, 263, none⟩)) 31 rfl rfl hSu (fun _ _ => by go_simp) ?_
 try simp only [Act.put, zA, zB, zC]
 refine tD 15 (.pointer (some ⟨wb, 263 + r, none⟩)) 32 rfl rfl hSu (fun _ _ => by go_simp) ?_
 try simp only [Act.put, zA, zB, zC]
 refine tD 16 (Z.rv (256 + r)) 33 rfl rfl hSu ?_ ?_
 ·rintro w' hq
  obtain ⟨_, hq2, hq3, hq4⟩ := hq
  go_simp
 try simp only [Act.put, zA, zB, zC]
 refine tD 17 (.pointer (some ⟨wb, 0, none⟩)) 34 rfl rfl hSu (fun _ _ => by go_simp) ?_
 try simp only [Act.put, zA, zB, zC]
 refine tD 18 (.int .i64 r) 35 rfl rfl hSu (fun _ _ => by go_simp) ?_
 try simp only [Act.put, zA, zB, zC]
 refine tD 19 (.pointer (some ⟨wb, 0, none⟩)) 36 rfl rfl hSu (fun _ _ => by go_simp) ?_
 try simp only [Act.put, zA, zB, zC]
 refine tD 20 (.pointer (some ⟨wb, 775, none⟩)) 37 rfl rfl hSu (fun _ _ => by go_simp) ?_
 try simp only [Act.put, zA, zB, zC]
 refine tD 21 (.pointer (some ⟨wb, 775 + r, none⟩)) 38 rfl rfl hSu (fun _ _ => by go_simp) ?_
 try simp only [Act.put, zA, zB, zC]
 refine rD 10 rfl fun K hK => ?_
 try rw [if_pos (by rfl)]
 go_simp
 go_at_call 38
 refine (H1.out.ln.takeC ⟨⟨k, 0, f, hp, p, o, s, a, A, n, cc⟩, ml⟩ HM1.out x.now).mono ?_
 rintro en u5 ⟨A5, n5, c5, Lt, rfl, hv5, hL5, _, hl5, hc5⟩
 have h5 := H1.out.line hl5 (.same hc5)
 have hS5 : Vb 54 u5 gs [.int .i64 k, .int .i64 0, .int .i64 f, .int .i64 hp, .int .i64 p, .int .i64 o, .int .i64 s, .int .i64 a, .slice A n cc] ∧ u5.cell? ⟨wb, 0, none⟩ = some (.pointer (some ⟨Z.lb, 0, none⟩)) ∧ u5.cell? ⟨wb, 2, none⟩ = some (.int .i64 x.now) ∧ u5.cell? ⟨wb, 263 + r, none⟩ = some (Z.rv (256 + r)) := ⟨(hc5.block gs hSu.1.lt (H1.out.ln.nots hSu.1 (.inl rfl))).trans hSu.1, h5.own.cell 0 (wcl_at _ _ (by omega) rfl), h5.own.cell 2 (wcl_at _ _ (by omega) rfl), HROW.out h5⟩
 have HG5 := Kp.mk h5
 have HV5 := Kp.mk hv5.out
 have HL5 := Kp.mk hL5
 have HC5 := Kp.mk hc5
 clear hl5 hc5 h5 hv5 hL5
 refine hK.out _ _ hS5 (fun _ => ?_)
 clear hK K
 try simp only [Act.put, zA, zB, zC]
 refine rD 22 rfl fun K hK => ?_
 try rw [if_pos (by rfl)]
 go_simp
 go_at_call 64
 have hml : ml.length = n := Mok.len HM1.out
 have hFo : Follow (x.rl (256 + r)) (x.gt (256 + r)) (Lt.map Ov.o) := by
  have := HFF.out
  rw [HRB.out.1, Int.toNat_natCast] at this
  rw [HL5.out, Ls.gets_abs x.l hml x.now]
  exact this
 have htold := told_yes HG5.out HV5.out (r := 256 + r) (by have := HRB.out.2; omega) hFo
 rw [show 519 + (256 + r) = 775 + r by omega] at htold
 refine htold.mono ?_
 rintro en u6 ⟨rfl, h6, hc6⟩
 have HG6 := Kp.mk h6
 have hS6 : Vb 54 u6 gs [.int .i64 k, .int .i64 0, .int .i64 f, .int .i64 hp, .int .i64 p, .int .i64 o, .int .i64 s, .int .i64 a, .slice A n cc] ∧ u6.cell? ⟨wb, 0, none⟩ = some (.pointer (some ⟨Z.lb, 0, none⟩)) ∧ u6.cell? ⟨wb, 2, none⟩ = some (.int .i64 x.now) ∧ u6.cell? ⟨wb, 263 + r, none⟩ = some (Z.rv (256 + r)) := ⟨(hc6.block gs hS5.1.lt (fun e => vb_ne hS5.1 HG5.out.own (by decide) e)).trans hS5.1, h6.own.cell 0 (wcl_at _ _ (by omega) rfl), h6.own.cell 2 (wcl_at _ _ (by omega) rfl), HROW.out h6⟩
 have HC6 := Kp.mk hc6
 clear htold hFo h6 hc6
 refine hK.out _ _ hS6 (fun _ => ?_)
 clear hK K
 try simp only [Act.put, zA, zB, zC]
 refine wpAnyH_done (by kernel_rfl) ?_ _
 clear hSu hS5 hS6
 go_wp2_with fail
 refine bodyPost_ret (results_none rfl _ _ _) rfl ?_
 have hl6 := congrArg List.length HL5.out
 rw [List.length_map, HV5.out.len, Ls.gets_abs x.l hml x.now] at hl6
 have e1 : x.comesL (Ms.abs ⟨⟨k, 0, f, hp, p, o, s, a, A, n, cc⟩, ml⟩) = Wd.got { x with l := x.l.take ⟨⟨k, 0, f, hp, p, o, s, a, A, n, cc⟩, ml⟩ x.now } (256 + r) (x.gt (256 + r) + n5) := by
  unfold Wd.comesL
  rw [HRB.out.1, Int.toNat_natCast, ← hl6, ← Ls.take_abs x.l hml x.now]
 rw [e1]
 exact ⟨rfl, _, HG6.out, ⟨(((Ch.of_below (S := wown wb Z) HB0.out).trans (Ch.of_below (S := wown wb Z) HD.out) (fun _ _ e => e)).trans HC5.out (fun _ _ e => .inl e)).trans HC6.out (fun _ _ e => .inr (.inr (.inl e))), fun k e => .inl e⟩⟩
theorem comesL_yes (h : Ww W w wb Z x) {m : Ms} (hm : Mok w m) (ht : m.x.t = 0) (he : 0 ≤ x.l.e ∧ x.l.e < 256) (hF : Follow (x.rl (256 + x.l.e.toNat)) (x.gt (256 + x.l.e.toNat)) (tells (x.l.gets m.abs.ms x.now))) : Calls Tryz.prog 33 #[.pointer (some ⟨wb, 0, none⟩), m.x.v] w fun en w' => en = .returned (.tuple #[]) ∧ ∃ K', Ww W w' wb K' (x.comesL m.abs) :=
 (comesL_wt h hm ht he hF).mono fun en w' ⟨h1, K', h2, _⟩ => ⟨h1, K', h2⟩
end
def Wd.comesP (x : Wd) (s : Sa) : Wd := { ({ x with p := x.p.take s.ms x.now } : Wd).got ((x.p.take s.ms x.now).e % 256).toNat (x.gt ((x.p.take s.ms x.now).e % 256).toNat + (tells (x.p.gets s.ms x.now)).length) with wire := x.wire ++ ((x.p.answers s.ms x.now).map Sv.ms).toList }
section
variable {W w w' : World} {wb : Nat} {Z : Wk} {x : Wd}
theorem comesP_wt (h : Ww W w wb Z x) {m : Ms} (hm : Mok w m) (ht : m.x.t ≠ 0) (hwl : x.wire.length ≤ 99990) (hF : Follow (x.rl ((x.p.take m.abs.ms x.now).e % 256).toNat) (x.gt ((x.p.take m.abs.ms x.now).e % 256).toNat) (tells (x.p.gets m.abs.ms x.now))) : Calls Tryz.prog 33 #[.pointer (some ⟨wb, 0, none⟩), m.x.v] w fun en w' => en = .returned (.tuple #[]) ∧ ∃ K', Ww W w' wb K' (x.comesP m.abs) ∧ WT w w' wb Z K' := by
 have HHM := Kp.mk hm
 have HFF := Kp.mk hF
 have HWL := Kp.mk hwl
 obtain ⟨⟨k, t, f, hp, p, o, s, a, A, n, cc⟩, ml⟩ := m
 have ht0 : (t == 0) = false := by simpa using ht
 have hml : ml.length = n := Mok.len hm
 rw [← Ps.take_abs x.p (m := ⟨⟨k, t, f, hp, p, o, s, a, A, n, cc⟩, ml⟩) hml x.now, ← Ps.gets_abs x.p (m := ⟨⟨k, t, f, hp, p, o, s, a, A, n, cc⟩, ml⟩) hml x.now] at HFF
 have hcm : x.comesP (Ms.abs ⟨⟨k, t, f, hp, p, o, s, a, A, n, cc⟩, ml⟩) = { ({ x with p := x.p.take ⟨⟨k, t, f, hp, p, o, s, a, A, n, cc⟩, ml⟩ x.now } : Wd).got ((x.p.take ⟨⟨k, t, f, hp, p, o, s, a, A, n, cc⟩, ml⟩ x.now).e % 256).toNat (x.gt ((x.p.take ⟨⟨k, t, f, hp, p, o, s, a, A, n, cc⟩, ml⟩ x.now).e % 256).toNat + (tells (x.p.gets ⟨⟨k, t, f, hp, p, o, s, a, A, n, cc⟩, ml⟩ x.now)).length) with wire := x.wire ++ ((x.p.answers ⟨⟨k, t, f, hp, p, o, s, a, A, n, cc⟩, ml⟩ x.now).map Sv.ms).toList } := by
  unfold Wd.comesP
  rw [← Ps.take_abs x.p (m := ⟨⟨k, t, f, hp, p, o, s, a, A, n, cc⟩, ml⟩) hml x.now, ← Ps.gets_abs x.p (m := ⟨⟨k, t, f, hp, p, o, s, a, A, n, cc⟩, ml⟩) hml x.now, ← Ps.answers_abs x.p (m := ⟨⟨k, t, f, hp, p, o, s, a, A, n, cc⟩, ml⟩) hml x.now]
 rw [hcm]
 simp only [Sv.v]
 have HTP := Kp.mk (fun (u : World) (hu : PnS u Z.pb Z.pq Z.gq x.p) (hmu : Mok u ⟨⟨k, t, f, hp, p, o, s, a, A, n, cc⟩, ml⟩) => hu.takeC ⟨⟨k, t, f, hp, p, o, s, a, A, n, cc⟩, ml⟩ hmu x.now)
 go_enter Tryz.func33, Tryz.ntmps33
 go_upto_region 1 with fail
 have hb0 := below_alloc w (.cells #[.int .i64 k, .int .i64 t, .int .i64 f, .int .i64 hp, .int .i64 p, .int .i64 o, .int .i64 s, .int .i64 a, .slice A n cc] 54)
 have HB0 := Kp.mk hb0
 have hv0 : Vb 54 (w.alloc (.cells #[.int .i64 k, .int .i64 t, .int .i64 f, .int .i64 hp, .int .i64 p, .int .i64 o, .int .i64 s, .int .i64 a, .slice A n cc] 54)) w.heap.size [.int .i64 k, .int .i64 t, .int .i64 f, .int .i64 hp, .int .i64 p, .int .i64 o, .int .i64 s, .int .i64 a, .slice A n cc] := Vb.new _ w _
 have h0 := h.below hb0
 have HM0 := Kp.mk (show Mok (w.alloc (.cells #[.int .i64 k, .int .i64 t, .int .i64 f, .int .i64 hp, .int .i64 p, .int .i64 o, .int .i64 s, .int .i64 a, .slice A n cc] 54)) ⟨⟨k, t, f, hp, p, o, s, a, A, n, cc⟩, ml⟩ from HHM.out.below hb0)
 obtain ⟨gs, egs⟩ : ∃ gs, gs = w.heap.size := ⟨_, rfl⟩
 rw [← egs] at hv0 ⊢
 clear egs h hb0 HHM hm ht hwl hF hml hcm
 generalize (w.alloc (.cells #[.int .i64 k, .int .i64 t, .int .i64 f, .int .i64 hp, .int .i64 p, .int .i64 o, .int .i64 s, .int .i64 a, .slice A n cc] 54)) = w0 at *
 have k1 := hv0.cell 1 (u := .int .i64 t) rfl
 have H0 := Kp.mk h0
 have HV0 := Kp.mk hv0
 clear h0 hv0
 go_upto_region 4 with fail
 clear k1
 have hd := (Below.refl w0.heap.size w0).drew
 have HD := Kp.mk hd
 have h1 := H0.out.below hd
 have hv1 := HV0.out.below hd HV0.out.lt
 have HM1 := Kp.mk (show Mok w0.drew ⟨⟨k, t, f, hp, p, o, s, a, A, n, cc⟩, ml⟩ from HM0.out.below hd)
 refine wp_region_held_drew (S := fun X => Vb 54 X gs [.int .i64 k, .int .i64 t, .int .i64 f, .int .i64 hp, .int .i64 p, .int .i64 o, .int .i64 s, .int .i64 a, .slice A n cc] ∧ X.cell? ⟨wb, 1, none⟩ = some (.pointer (some ⟨Z.pb, 0, none⟩)) ∧ X.cell? ⟨wb, 2, none⟩ = some (.int .i64 x.now)) (by kernel_rfl) ⟨hv1, h1.own.cell 1 (wcl_at _ Z (by omega) rfl), h1.own.cell 2 (wcl_at _ Z (by omega) rfl)⟩ (fun hSu => ?_)
 have H1 := Kp.mk h1
 clear hd h1 hv1 H0 HV0 HM0
 generalize w0.drew = u at *
 refine tD 0 (.pointer (some ⟨wb, 0, none⟩)) 41 rfl rfl hSu (fun _ _ => by go_simp) ?_
 try simp only [Act.put, zA, zB, zC]
 refine tD 1 (.pointer (some ⟨wb, 0, none⟩)) 42 rfl rfl hSu (fun _ _ => by go_simp) ?_
 try simp only [Act.put, zA, zB, zC]
 refine tD 2 (.pointer (some ⟨wb, 1, none⟩)) 43 rfl rfl hSu (fun _ _ => by go_simp) ?_
 try simp only [Act.put, zA, zB, zC]
 refine tD 3 (.pointer (some ⟨Z.pb, 0, none⟩)) 44 rfl rfl hSu ?_ ?_
 ·rintro w' hq
  obtain ⟨_, hq2, hq3⟩ := hq
  go_simp
 try simp only [Act.put, zA, zB, zC]
 refine tD 4 (.agg #[.int .i64 k, .int .i64 t, .int .i64 f, .int .i64 hp, .int .i64 p, .int .i64 o, .int .i64 s, .int .i64 a, .slice A n cc]) 45 rfl rfl hSu ?_ ?_
 ·rintro w' hq
  exact exec_load_vb (vs := [.int .i64 k, .int .i64 t, .int .i64 f, .int .i64 hp, .int .i64 p, .int .i64 o, .int .i64 s, .int .i64 a, .slice A n cc]) (.tmp 3) rfl rfl (hq.1) rfl agg_seg
 try simp only [Act.put, zA, zB, zC]
 refine tD 5 (.pointer (some ⟨wb, 0, none⟩)) 46 rfl rfl hSu (fun _ _ => by go_simp) ?_
 try simp only [Act.put, zA, zB, zC]
 refine tD 6 (.pointer (some ⟨wb, 0, none⟩)) 47 rfl rfl hSu (fun _ _ => by go_simp) ?_
 try simp only [Act.put, zA, zB, zC]
 refine tD 7 (.pointer (some ⟨wb, 2, none⟩)) 48 rfl rfl hSu (fun _ _ => by go_simp) ?_
 try simp only [Act.put, zA, zB, zC]
 refine tD 8 (.int .i64 x.now) 49 rfl rfl hSu ?_ ?_
 ·rintro w' hq
  obtain ⟨_, hq2, hq3⟩ := hq
  go_simp
 try simp only [Act.put, zA, zB, zC]
 refine rD 9 rfl fun K hK => ?_
 try rw [if_pos (by rfl)]
 go_simp
 go_at_call 37
 refine (HTP.out u H1.out.pn HM1.out).mono ?_
 rintro en u5 ⟨A5, n5, c5, Lt, A6, n6, c6, rfl, hv5, hL5, _, hsa5, q5, hl5, ht5⟩
 have h5 := H1.out.port hl5 ht5
 have hS5 : (fun X => Vb 54 X gs [.int .i64 k, .int .i64 t, .int .i64 f, .int .i64 hp, .int .i64 p, .int .i64 o, .int .i64 s, .int .i64 a, .slice A n cc] ∧ X.cell? ⟨wb, 1, none⟩ = some (.pointer (some ⟨Z.pb, 0, none⟩)) ∧ X.cell? ⟨wb, 2, none⟩ = some (.int .i64 x.now)) u5 := ⟨(ht5.1.block gs hSu.1.lt (H1.out.pn.nots hSu.1 (.inl rfl))).trans hSu.1, h5.own.cell 1 (wcl_at _ _ (by omega) rfl), h5.own.cell 2 (wcl_at _ _ (by omega) rfl)⟩
 have HG5 := Kp.mk h5
 have HV5 := Kp.mk hv5.out
 have HA5 := Kp.mk hsa5.out
 have HL5 := Kp.mk hL5
 have HT5 := Kp.mk ht5
 clear hl5 ht5 h5 hv5 hL5 hsa5
 refine hK.out _ _ hS5 (fun _ => ?_)
 clear hK K
 generalize x.p.begins ⟨⟨k, t, f, hp, p, o, s, a, A, n, cc⟩, ml⟩ x.now = B at *
 generalize hp5 : x.p.take ⟨⟨k, t, f, hp, p, o, s, a, A, n, cc⟩, ml⟩ x.now = p5 at *
 have HP5 := Kp.mk hp5
 clear hp5
 try simp only [Act.put, zA, zB, zC]
 refine tD 10 (.tuple #[.slice A5 n5 c5, .slice A6 n6 c6, .bool B]) 40 rfl rfl hS5 (fun _ _ => by go_simp) ?_
 try simp only [Act.put, zA, zB, zC]
 refine tD 11 (.slice A5 n5 c5) 51 rfl rfl hS5 (fun _ _ => by go_simp) ?_
 try simp only [Act.put, zA, zB, zC]
 refine tD 12 (.slice A6 n6 c6) 52 rfl rfl hS5 (fun _ _ => by go_simp) ?_
 try simp only [Act.put, zA, zB, zC]
 refine tD 13 (.bool B) 53 rfl rfl hS5 (fun _ _ => by go_simp) ?_
 try simp only [Act.put, zA, zB, zC]
 refine tD 14 (.slice A5 n5 c5) 5 rfl rfl hS5 (fun _ _ => by go_simp) ?_
 try simp only [Act.put, zA, zB, zC]
 refine tD 15 (.slice A6 n6 c6) 6 rfl rfl hS5 (fun _ _ => by go_simp) ?_
 try simp only [Act.put, zA, zB, zC]
 refine tD 16 (.bool B) 7 rfl rfl hS5 (fun _ _ => by go_simp) ?_
 try simp only [Act.put, zA, zB, zC]
 refine wpAnyH_done (by kernel_rfl) ?_ _
 clear hSu hS5 H1
 have hep : Calls Tryz.prog 25 #[.pointer (some ⟨Z.pb, 0, none⟩)] u5 fun en w' => en = .returned (.int .i64 p5.e) ∧ w' = u5 := HG5.out.pn.epochC
 have a1 := HG5.out.own.cell 1 (wcl_at _ _ (by omega) (u := .pointer (some ⟨Z.pb, 0, none⟩)) rfl)
 generalize hY : ({ Z with pq := q5 } : Wk) = Y at *
 have HPB := Kp.mk (show Y.pb = Z.pb by rw [← hY])
 have HY2 := Kp.mk (show Y.lb = Z.lb ∧ Y.lc = Z.lc ∧ Y.lq = Z.lq ∧ Y.pb = Z.pb ∧ Y.gq = Z.gq ∧ Y.pq = q5 ∧ Y.wv = Z.wv by rw [← hY]; exact ⟨rfl, rfl, rfl, rfl, rfl, rfl, rfl⟩)
 generalize hy : ({ x with p := p5 } : Wd) = y at *
 have HYE := Kp.mk hy
 have HY := Kp.mk (show y.rl = x.rl ∧ y.gt = x.gt ∧ y.wire = x.wire ∧ y.p = p5 by rw [← hy]; exact ⟨rfl, rfl, rfl, rfl⟩)
 have hbr := Ser.bring_any p5.e 256 u5 (by omega) (by omega)
 have hbx := Ser.bringP_bd p5.e 256 (by omega)
 have HBX := Kp.mk (show Ser.bringP p5.e 256 = p5.e % 256 from rfl)
 generalize Ser.bringP p5.e 256 = e at *
 obtain ⟨r, her⟩ : ∃ r : Nat, e = (r : Int) := ⟨e.toNat, by omega⟩
 have hr5 : r < 256 := by omega
 subst her
 have HRB := Kp.mk (And.intro HBX.out hr5)
 have hri : (r : Int) < 256 := by omega
 clear HBX hbx hY hy hr5
 go_upto_region 6 with (first | (go_at_call 25; refine hep.mono ?_; rintro en wx ⟨rfl, hwx⟩; replace hwx := hwx.symm; subst hwx) | (refine hbr.mono ?_; rintro en wx ⟨rfl, hwx⟩; subst hwx))
 clear hep hbr a1
 have hd := (Below.refl u5.heap.size u5).drew
 have HD6 := Kp.mk hd
 have h6 := HG5.out.below hd
 have HV6 := Kp.mk (HV5.out.below hd)
 have HA6 := Kp.mk (HA5.out.below hd)
 have hrow : ∀ {X : World} {y : Wd}, Ww W X wb Y y → X.cell? ⟨wb, 7 + r, none⟩ = some (Y.rv r) := fun {X y} hX => hX.own.cell (7 + r) (wcl_row _ Y (by have := HRB.out.2; omega))
 refine wp_region_held_drew (S := fun X => X.cell? ⟨wb, 7 + r, none⟩ = some (Y.rv r)) (by kernel_rfl) (hrow h6) (fun hSu => ?_)
 have H6 := Kp.mk h6
 have HROW := Kp.mk @hrow
 clear hd h6 hrow HG5 HV5 HA5
 generalize u5.drew = u6 at *
 refine tD 0 (.pointer (some ⟨wb, 0, none⟩)) 60 rfl rfl hSu (fun _ _ => by go_simp) ?_
 try simp only [Act.put, zA, zB, zC]
 refine tD 1 (.slice A5 n5 c5) 61 rfl rfl hSu (fun _ _ => by go_simp) ?_
 try simp only [Act.put, zA, zB, zC]
 refine tD 2 (.pointer (some ⟨wb, 0, none⟩)) 62 rfl rfl hSu (fun _ _ => by go_simp) ?_
 try simp only [Act.put, zA, zB, zC]
 refine tD 3 (.int .i64 r) 63 rfl rfl hSu (fun _ _ => by go_simp) ?_
 try simp only [Act.put, zA, zB, zC]
 refine tD 4 (.pointer (some ⟨wb, 0, none⟩)) 64 rfl rfl hSu (fun _ _ => by go_simp) ?_
 try simp only [Act.put, zA, zB, zC]
 refine tD 5 (.pointer (some ⟨wb, 7, none⟩)) 65 rfl rfl hSu (fun _ _ => by go_simp) ?_
 try simp only [Act.put, zA, zB, zC]
 refine tD 6 (.pointer (some ⟨wb, 7 + r, none⟩)) 66 rfl rfl hSu (fun _ _ => by go_simp) ?_
 try simp only [Act.put, zA, zB, zC]
 refine tD 7 (Y.rv r) 67 rfl rfl hSu ?_ ?_
 ·rintro w' hq
  go_simp
 try simp only [Act.put, zA, zB, zC]
 refine tD 8 (.pointer (some ⟨wb, 0, none⟩)) 68 rfl rfl hSu (fun _ _ => by go_simp) ?_
 try simp only [Act.put, zA, zB, zC]
 refine tD 9 (.int .i64 r) 69 rfl rfl hSu (fun _ _ => by go_simp) ?_
 try simp only [Act.put, zA, zB, zC]
 refine tD 10 (.pointer (some ⟨wb, 0, none⟩)) 70 rfl rfl hSu (fun _ _ => by go_simp) ?_
 try simp only [Act.put, zA, zB, zC]
 refine tD 11 (.pointer (some ⟨wb, 519, none⟩)) 71 rfl rfl hSu (fun _ _ => by go_simp) ?_
 try simp only [Act.put, zA, zB, zC]
 refine tD 12 (.pointer (some ⟨wb, 519 + r, none⟩)) 72 rfl rfl hSu (fun _ _ => by go_simp) ?_
 try simp only [Act.put, zA, zB, zC]
 refine rD 13 rfl fun K hK => ?_
 try rw [if_pos (by rfl)]
 go_simp
 go_at_call 64
 have hFo : Follow (y.rl r) (y.gt r) (Lt.map Ov.o) := by
  have := HFF.out
  rw [← HRB.out.1, Int.toNat_natCast] at this
  rw [HL5.out, HY.out.1, HY.out.2.1]
  exact this
 refine (told_yes H6.out HV6.out (r := r) (by have := HRB.out.2; omega) hFo).mono ?_
 rintro en u7 ⟨rfl, h7, hc7⟩
 have H7 := Kp.mk h7
 have HA7 := Kp.mk (HA6.out.stay hc7 (fun k e => by obtain ⟨cs, hv⟩ := HA6.out.vb e; exact vb_ne hv H6.out.own (by decide)) (nob_vb H6.out.own (by decide) (by decide)))
 have hS7 := HROW.out h7
 have HC7 := Kp.mk hc7
 clear hFo h7 hc7
 refine hK.out _ _ hS7 (fun _ => ?_)
 clear hK K
 try simp only [Act.put, zA, zB, zC]
 refine wpAnyH_done (by kernel_rfl) ?_ _
 clear hSu hS7 H6
 have hn6 : n6 ≤ 1 := by
  have := HA7.out.len
  cases hz : x.p.answers ⟨⟨k, t, f, hp, p, o, s, a, A, n, cc⟩, ml⟩ x.now <;> rw [hz] at this <;> simp at this <;> omega
 obtain ⟨A9, c9, w9, hrun, ho9, _, h9, hc9, hn9⟩ := H7.out.wire2 37 HA7.out (by have := HWL.out; have := HY.out.2.2.1; show y.wire.length + n6 ≤ 100000; rw [this]; omega)
 have c5 := H7.out.own.cell 5 (wcl_at _ Y (by omega) rfl)
 have d5 := ho9.cell 5 (wcl_at _ Y (by omega) rfl)
 have f5 := ho9.free 5
 have H9 := Kp.mk h9
 have HWT := Kp.mk (show WT w (w9.setCell ⟨wb, 5, none⟩ (.slice A9 ((y.got r (y.gt r + n5)).wire.length + n6) c9)) wb Z { Y with wv := .slice A9 ((y.got r (y.gt r + n5)).wire.length + n6) c9 } from by
  obtain ⟨g1, g2, g3, g4, g5, g6, g7⟩ := HY2.out
  have z1 := HB0.out.size
  have z2 := HD.out.size
  have z3 := HT5.out.1.size
  have z4 := HD6.out.size
  have z5 := HC7.out.size
  refine ⟨(((((Ch.of_below (S := wown wb Z) HB0.out).trans (Ch.of_below (S := wown wb Z) HD.out) (fun _ _ e => e)).trans HT5.out.1 (fun _ _ e => .inr (.inl e))).trans (Ch.of_below (S := wown wb Z) HD6.out) (fun _ _ e => e)).trans HC7.out (fun _ _ e => .inr (.inr (.inl e)))).trans hc9 (fun _ _ e => ?_), fun k e => ?_⟩
  ·rcases e with e | e
   ·rw [g7] at e
    exact .inr (.inr (.inr e))
   ·exact .inr (.inr (.inl e))
  ·rcases e with e | e | e | e
   ·have e : lown Y.lb Y.lc Y.lq k := e
    rw [g1, g2, g3] at e
    exact .inl (.inl e)
   ·have e : lown Y.pb Y.gq Y.pq k := e
    rw [g4, g5, g6] at e
    rcases HT5.out.2 k e with e2 | e2
    ·exact .inl (.inr (.inl e2))
    ·exact .inr (by omega)
   ·exact .inl (.inr (.inr (.inl e)))
   ·rcases hn9 k e with e2 | e2
    ·rw [g7] at e2
     exact .inl (.inr (.inr (.inr e2)))
    ·exact .inr (by omega))
 clear h9 ho9 hn6 hc9 hn9
 go_wp2_with (at_builtin; refine Lib.wpList_append_run _ rfl _ _ _ _ rfl _ _ rfl rfl _ _ hrun ?_)
 refine bodyPost_end (results_none rfl _ _ _) rfl ?_
 have hl6 := congrArg List.length HL5.out
 rw [List.length_map, HV6.out.len] at hl6
 refine ⟨rfl, { Y with wv := .slice A9 ((y.got r (y.gt r + n5)).wire.length + n6) c9 }, ?_, HWT.out⟩
 rw [HP5.out, ← HRB.out.1, Int.toNat_natCast, ← hl6, HYE.out, ← HY.out.2.1, ← HY.out.2.2.1]
 exact H9.out
theorem comesP_yes (h : Ww W w wb Z x) {m : Ms} (hm : Mok w m) (ht : m.x.t ≠ 0) (hwl : x.wire.length ≤ 99990) (hF : Follow (x.rl ((x.p.take m.abs.ms x.now).e % 256).toNat) (x.gt ((x.p.take m.abs.ms x.now).e % 256).toNat) (tells (x.p.gets m.abs.ms x.now))) : Calls Tryz.prog 33 #[.pointer (some ⟨wb, 0, none⟩), m.x.v] w fun en w' => en = .returned (.tuple #[]) ∧ ∃ K', Ww W w' wb K' (x.comesP m.abs) :=
 (comesP_wt h hm ht hwl hF).mono fun en w' ⟨h1, K', h2, _⟩ => ⟨h1, K', h2⟩
end
end Go.Proofs.YtnoflfbcgbhipaaGreat.Oct
