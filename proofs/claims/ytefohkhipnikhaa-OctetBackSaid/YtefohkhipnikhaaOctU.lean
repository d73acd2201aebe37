/- The walk of OctetBack, where the text is of 400 bytes at most. Written by wip/back.py. -/
import Derived.Test.YtefohkhipnikhaaOctT
namespace Go.Proofs.Ytefohkhipnikhaa.Oct
open Go.RowKit
set_option linter.unusedVariables false
set_option maxRecDepth 100000 in
set_option maxHeartbeats 6400000 in
theorem back_lo {w : World} {A A2 A3 : Option Addr} {n c n2 c2 n3 c3 : Nat} {ls lb lh : List Int} (h : Rd .i64 w w.heap.size A n c ls) (h2 : Rd .u8 w w.heap.size A2 n2 c2 lb) (hbb : By lb) (h3 : Rd .u8 w w.heap.size A3 n3 c3 lh) (hbh : By lh) (hc3 : c3 ≤ 140737488351232) (hn : (n2 : Int) ≤ c2) (hm : (n2 : Int) ≤ 400) :
    Calls Try.prog 6 #[.slice A n c, .slice A2 n2 c2, .slice A3 n3 c3] w fun e w' => e = .returned (.bool true) ∧ Below w.heap.size w w' := by
  have hN : n2 ≤ 400 := by omega
  have hmx := h.max
  have hcm : (c2 : Int) ≤ 9223372036854775807 := by have := h2.cap; unfold maxLen at this; omega
  have H := Kp.mk h
  have H2 := Kp.mk h2
  have H3 := Kp.mk h3
  clear h h2 h3
  go_enter Try.func6, Try.ntmps6
  go_wp2_with fail
  refine (works_any _).mono ?_
  rintro e w1 ⟨rfl, t1⟩
  have T1 := Kp.mk t1
  have hz1 := t1.size
  clear t1
  go_wp2_with fail
  clear hn hm hcm
  go_loopw [8, 9, 10, 11, 12] (fun b i _ _ _ wr => ∃ (k : Nat) (Ab : Option Addr) (nb cb : Nat), k ≤ n ∧ k ≤ 20 ∧ i = .int .i64 k ∧ b = .slice Ab nb cb ∧ Own wr (w1.heap.size + 1) (.slice Ab nb cb) nb (accL ls k) ∧ Below (w1.heap.size + 1) (ws3 w1) wr) (fun _ i _ _ _ _ => 20 - (intOf i).toNat)
  case atStart => exact ⟨0, none, 0, 0, by omega, by omega, rfl, rfl, Own.nil _ _, Below.refl _ _⟩
  case round =>
    obtain ⟨k, Ab, nb, cb, hkn, hk20, rfl, rfl, ho, hb⟩ := hrel
    have hzr := ws3_size hb
    have hT := ws3_below T1.out hb
    by_cases hlt : k < n ∧ k < 20
    · obtain ⟨hl1, hl2⟩ := hlt
      have j1 : (k : Int) < n := by omega
      have j2 : (k : Int) < 20 := by omega
      obtain ⟨bk, off, rfl, hbw, hcell⟩ := (H.out.below hT).at_ (by omega)
      have hbk : bk < wr.heap.size := by omega
      have hck := hcell k hl1
      have hnb : nb ≤ 100 := by have := ho.len; have := accL_len ls k; omega
      obtain ⟨d0, d1, d2⟩ := ws3_cells hb
      have Ho := Kp.mk ho
      clear ho hcell hT
      have h012 : k % 3 = 0 ∨ k % 3 = 1 ∨ k % 3 = 2 := by omega
      rcases h012 with hr | hr | hr
      · have j0 : (k : Int) % 3 = 0 := by omega
        have hpc := Kp.mk (pc0 ls k hr)
        clear hr
        generalize ls.getD k 0 = x at *
        have hv0 := (Ser.bringP_bd x 256 (by omega)).1
        have hv1 := (Ser.bringP_bd x 256 (by omega)).2
        have q1 := wr8
        have q2 := shl8
        go_wp2_with fail
        go_region_held3 (fun w' => w'.cell? ⟨bk, off + k, none⟩ = some (.int .i64 x))
          (first
            | exact hck
            | with_reducible exact cell_one hck hbk _
            | with_reducible exact cell_below hck hbk hbP
            | (go_keep; done))
          (first | (go_at_call 40; refine (Ser.bring_any x 256 _ (by omega) (by omega)).mono ?_; rintro en wA ⟨rfl, rfl⟩) | (go_at_call 16; refine (put_piece 1 1 rfl (by omega) (Ser.bringP x 256) hv0 (by omega) Ho.out hnb).mono ?_; rintro en wP ⟨Ap, np, cp, rfl, hoP, hbP⟩))
        go_wp2_with fail
        go_roundw
        case rel => exact ⟨k + 1, Ap, np, cp, by omega, by omega, by go_num, rfl, by rw [accL_succ, hpc.out]; exact hoP.lower hzr, hb.trans (hbP.mono hzr)⟩
        case measure => simp [intOf]; omega
      · have j0 : (k : Int) % 3 = 1 := by omega
        have hpc := Kp.mk (pc1 ls k hr)
        clear hr
        generalize ls.getD k 0 = x at *
        have hv0 := (Ser.bringP_bd x 65536 (by omega)).1
        have hv1 := (Ser.bringP_bd x 65536 (by omega)).2
        have q1 := wr16
        have q2 := shl16
        go_wp2_with fail
        go_region_held3 (fun w' => w'.cell? ⟨bk, off + k, none⟩ = some (.int .i64 x))
          (first
            | exact hck
            | with_reducible exact cell_one hck hbk _
            | with_reducible exact cell_below hck hbk hbP
            | (go_keep; done))
          (first | (go_at_call 40; refine (Ser.bring_any x 65536 _ (by omega) (by omega)).mono ?_; rintro en wA ⟨rfl, rfl⟩) | (go_at_call 16; refine (put_piece 2 2 rfl (by omega) (Ser.bringP x 65536) hv0 (by omega) Ho.out hnb).mono ?_; rintro en wP ⟨Ap, np, cp, rfl, hoP, hbP⟩))
        go_wp2_with fail
        go_roundw
        case rel => exact ⟨k + 1, Ap, np, cp, by omega, by omega, by go_num, rfl, by rw [accL_succ, hpc.out]; exact hoP.lower hzr, hb.trans (hbP.mono hzr)⟩
        case measure => simp [intOf]; omega
      · have j0 : (k : Int) % 3 = 2 := by omega
        have hpc := Kp.mk (pc2 ls k hr)
        clear hr
        generalize ls.getD k 0 = x at *
        have hv0 := (Ser.bringP_bd x 4294967296 (by omega)).1
        have hv1 := (Ser.bringP_bd x 4294967296 (by omega)).2
        have q1 := wr32
        have q2 := shl32
        go_wp2_with fail
        go_region_held3 (fun w' => w'.cell? ⟨bk, off + k, none⟩ = some (.int .i64 x))
          (first
            | exact hck
            | with_reducible exact cell_one hck hbk _
            | with_reducible exact cell_below hck hbk hbP
            | (go_keep; done))
          (first | (go_at_call 40; refine (Ser.bring_any x 4294967296 _ (by omega) (by omega)).mono ?_; rintro en wA ⟨rfl, rfl⟩) | (go_at_call 16; refine (put_piece 4 4 rfl (by omega) (Ser.bringP x 4294967296) hv0 (by omega) Ho.out hnb).mono ?_; rintro en wP ⟨Ap, np, cp, rfl, hoP, hbP⟩))
        go_wp2_with fail
        go_roundw
        case rel => exact ⟨k + 1, Ap, np, cp, by omega, by omega, by go_num, rfl, by rw [accL_succ, hpc.out]; exact hoP.lower hzr, hb.trans (hbP.mono hzr)⟩
        case measure => simp [intOf]; omega
    · have hor : n = k ∨ (k < n ∧ k = 20) := by omega
      clear hlt
      rcases hor with hor | ⟨j1, hor⟩
      · obtain ⟨N, hNk⟩ : ∃ N, N = k := ⟨k, rfl⟩
        subst hor
        subst hNk
        have hlb := H2.out.len
        have hlh := H3.out.len
        have rs2 := H2.out.below hT
        have hla := accL_len ls N
        have htx := Kp.mk (textP_ok (accL ls N) lb (by omega))
        have hby := ((accL_by ls N).append (dg_by 2 lb.length)).append hbb
        have hle3 := H3.out.le
        have hlo := ho.len
        have Ho := Kp.mk ho
        clear ho
        go_wp2_with fail
        refine (text_any Ho.out.rd rs2 (Nat.le_refl _) (by have := hT.size; omega) (by omega)).mono ?_
        rw [htx.out]
        rintro e w3 ⟨A5, n5, c5, rfl, ho5, t3⟩
        have hT3 := bstep hT t3 hT.size
        have z3 := t3.size
        have h5l := ho5.len
        simp only [List.length_append, dg_len] at h5l
        have r3 := H3.out.below hT3
        go_wp2_with (at_builtin; refine wpList_append8 rfl (.tmp 63) (.tmp 64) rfl rfl ho5 rfl r3 (by omega) z3 ?_; intro A6 c6 w4 ho6 hb6)
        have t4 := t3.trans hb6
        have z4 := t4.size
        refine (read_any ho6.rd (hby.append hbh) (Nat.le_refl _) (by omega)).mono ?_
        rintro e w5 ⟨g, rfl, hR5, t5⟩
        have t6 := t4.trans (t5.mono z4)
        have hg0 : w4.heap.size ≤ g := by obtain ⟨_, _, _, _, hlo, _⟩ := hR5; exact hlo
        have hgw := hR5.lt
        have hb5 := hb.trans (t6.mono hzr)
        have hR0 := Kp.mk (show Rdr 52 w5 w4.heap.size g (restL ls (dg 2 lb.length ++ lb ++ lh) (N - 0) 0) 0 by
          have e1 := rest_all ls (dg 2 lb.length ++ lb ++ lh) N 0
          rw [accL_zero, Nat.zero_add, List.nil_append] at e1
          rw [Nat.sub_zero, e1]
          simpa only [List.append_assoc] using hR5)
        clear hR5 ho5 ho6 hb6 r3 t3 t4 t5 t6 rs2 hby hT hT3 hb h5l hla hlo hle3
        go_wp2_with fail
        go_loopw [15] (fun i wr => ∃ k : Nat, k ≤ N ∧ i = .int .i64 k ∧ Kp (Rdr 52 wr w4.heap.size g (restL ls (dg 2 lb.length ++ lb ++ lh) (N - k) k) 0) ∧ Below (w1.heap.size + 1) (ws3 w1) wr) (fun i _ => 20 - (intOf i).toNat)
        case atStart => exact ⟨0, by omega, rfl, hR0, hb5⟩
        case round =>
          obtain ⟨k, hkN, rfl, hRk, hb⟩ := hrel
          clear hb5 hR0
          have hzr := ws3_size hb
          have hT := ws3_below T1.out hb
          by_cases hlt : k < N
          · obtain ⟨j, hj⟩ : ∃ j, N - k = j + 1 := ⟨N - k - 1, by omega⟩
            have hR := hRk.out
            rw [hj, restL] at hR
            clear hRk
            have hl1 : k < N := by omega
            have j1 : (k : Int) < N := by omega
            have j2 : (k : Int) < 20 := by omega
            obtain ⟨bk, off, rfl, hbw, hcell⟩ := (H.out.below hT).at_ (by omega)
            have hck := hcell k hl1
            have hbk : bk ≠ g := by have := T1.out.size; omega
            have hgr := hR.lt
            have hbg : w1.heap.size ≠ g := by omega
            obtain ⟨d0, d1, d2⟩ := ws3_cells hb
            clear hcell hT
            have h012 : k % 3 = 0 ∨ k % 3 = 1 ∨ k % 3 = 2 := by omega
            rcases h012 with hr | hr | hr
            · have j0 : (k : Int) % 3 = 0 := by omega
              have hpc := pc0 ls k hr
              clear hr
              generalize ls.getD k 0 = x at *
              have hv0 := (Ser.bringP_bd x 256 (by omega)).1
              have hv1 := (Ser.bringP_bd x 256 (by omega)).2
              rw [hpc] at hR
              have HR := Kp.mk hR
              clear hR hpc
              have q1 := wr8
              have q2 := shl8
              have q3 : IntKind.i64.wrap ((k : Int) % 3) = 0 := by rw [j0]; decide +kernel
              have q4 : Int.tmod (k : Int) 3 = 0 := by rw [Int.tmod_eq_emod_of_nonneg (by omega)]; exact j0
              have q5 : IntKind.i64.wrap 0 = 0 := by decide +kernel
              generalize hv : Ser.bringP x 256 = v at *
              have Hv := Kp.mk hv
              clear hv
              go_wp2_with fail
              go_region_held3 (fun w' => w'.cell? ⟨bk, off + k, none⟩ = some (.int .i64 x) ∧ w'.cell? ⟨w1.heap.size, 0, none⟩ = some (.int .i64 1))
                (first
                  | exact ⟨hck, d0⟩
                  | exact ⟨grown_cell hgA hck (by omega), grown_cell hgA d0 (by omega)⟩
                  | (go_keep; done))
                (first | (go_at_call 40; refine (Ser.bring_any x 256 _ (by omega) (by omega)).mono ?_; rw [Hv.out]; rintro en wB ⟨rfl, rfl⟩) | (go_at_call 30; refine (num_piece 1 1 rfl (by omega) v hv0 (by omega) (w := wr.drew) HR.out).mono ?_; rintro en wA ⟨rfl, hA, hgA⟩))
              all_goals go_wp2_with fail
              all_goals go_roundw
              all_goals first | exact ⟨k + 1, by omega, by go_num, Kp.mk (by rw [show N - (k + 1) = j from by omega]; exact hA), below_grown hb.drew hgA hzr (by omega)⟩ | (simp [intOf]; omega)
            · have j0 : (k : Int) % 3 = 1 := by omega
              have hpc := pc1 ls k hr
              clear hr
              generalize ls.getD k 0 = x at *
              have hv0 := (Ser.bringP_bd x 65536 (by omega)).1
              have hv1 := (Ser.bringP_bd x 65536 (by omega)).2
              rw [hpc] at hR
              have HR := Kp.mk hR
              clear hR hpc
              have q1 := wr16
              have q2 := shl16
              have q3 : IntKind.i64.wrap ((k : Int) % 3) = 1 := by rw [j0]; decide +kernel
              have q4 : Int.tmod (k : Int) 3 = 1 := by rw [Int.tmod_eq_emod_of_nonneg (by omega)]; exact j0
              have q5 : IntKind.i64.wrap 1 = 1 := by decide +kernel
              generalize hv : Ser.bringP x 65536 = v at *
              have Hv := Kp.mk hv
              clear hv
              go_wp2_with fail
              go_region_held3 (fun w' => w'.cell? ⟨bk, off + k, none⟩ = some (.int .i64 x) ∧ w'.cell? ⟨w1.heap.size, 1, none⟩ = some (.int .i64 2))
                (first
                  | exact ⟨hck, d1⟩
                  | exact ⟨grown_cell hgA hck (by omega), grown_cell hgA d1 (by omega)⟩
                  | (go_keep; done))
                (first | (go_at_call 40; refine (Ser.bring_any x 65536 _ (by omega) (by omega)).mono ?_; rw [Hv.out]; rintro en wB ⟨rfl, rfl⟩) | (go_at_call 30; refine (num_piece 2 2 rfl (by omega) v hv0 (by omega) (w := wr.drew) HR.out).mono ?_; rintro en wA ⟨rfl, hA, hgA⟩))
              all_goals go_wp2_with fail
              all_goals go_roundw
              all_goals first | exact ⟨k + 1, by omega, by go_num, Kp.mk (by rw [show N - (k + 1) = j from by omega]; exact hA), below_grown hb.drew hgA hzr (by omega)⟩ | (simp [intOf]; omega)
            · have j0 : (k : Int) % 3 = 2 := by omega
              have hpc := pc2 ls k hr
              clear hr
              generalize ls.getD k 0 = x at *
              have hv0 := (Ser.bringP_bd x 4294967296 (by omega)).1
              have hv1 := (Ser.bringP_bd x 4294967296 (by omega)).2
              rw [hpc] at hR
              have HR := Kp.mk hR
              clear hR hpc
              have q1 := wr32
              have q2 := shl32
              have q3 : IntKind.i64.wrap ((k : Int) % 3) = 2 := by rw [j0]; decide +kernel
              have q4 : Int.tmod (k : Int) 3 = 2 := by rw [Int.tmod_eq_emod_of_nonneg (by omega)]; exact j0
              have q5 : IntKind.i64.wrap 2 = 2 := by decide +kernel
              generalize hv : Ser.bringP x 4294967296 = v at *
              have Hv := Kp.mk hv
              clear hv
              go_wp2_with fail
              go_region_held3 (fun w' => w'.cell? ⟨bk, off + k, none⟩ = some (.int .i64 x) ∧ w'.cell? ⟨w1.heap.size, 2, none⟩ = some (.int .i64 4))
                (first
                  | exact ⟨hck, d2⟩
                  | exact ⟨grown_cell hgA hck (by omega), grown_cell hgA d2 (by omega)⟩
                  | (go_keep; done))
                (first | (go_at_call 40; refine (Ser.bring_any x 4294967296 _ (by omega) (by omega)).mono ?_; rw [Hv.out]; rintro en wB ⟨rfl, rfl⟩) | (go_at_call 30; refine (num_piece 4 4 rfl (by omega) v hv0 (by omega) (w := wr.drew) HR.out).mono ?_; rintro en wA ⟨rfl, hA, hgA⟩))
              all_goals go_wp2_with fail
              all_goals go_roundw
              all_goals first | exact ⟨k + 1, by omega, by go_num, Kp.mk (by rw [show N - (k + 1) = j from by omega]; exact hA), below_grown hb.drew hgA hzr (by omega)⟩ | (simp [intOf]; omega)
          · obtain rfl : k = N := by omega
            have hR := hRk.out
            rw [Nat.sub_self, restL] at hR
            clear hRk hlt
            have htp := textR_piece lb lh (by omega)
            have hRt := textM_any hR
            rw [htp] at hRt
            have HRt := Kp.mk hRt
            clear hRt htp hR
            have r2 := H2.out.below hT
            have HT := Kp.mk hT
            have Hlh := Kp.mk hlh
            clear hT hlh hlb
            go_wp2_with fail
            refine HRt.out.mono ?_
            rintro e w6 ⟨A7, n7, c7, rfl, ho7, hR7, hg7⟩
            have hT7 := below_grown HT.out hg7 (by have := HT.out.size; omega) (by have := T1.out.size; omega)
            have r7 := H2.out.below hT7
            have HR7 := Kp.mk hR7
            have HT7 := Kp.mk hT7
            have Ho7 := Kp.mk ho7
            clear hR7 hT7 ho7 hg7 HRt r2
            go_wp2_with fail
            refine (eqBytes_any Ho7.out.rd r7 hbb hbb).mono ?_
            rw [show decide (lb = lb) = true from by simp]
            rintro e w' ⟨rfl, rfl⟩
            go_wp2_with fail
            refine (leftM_any HR7.out).mono ?_
            rw [Hlh.out]
            rintro e w' ⟨rfl, rfl⟩
            go_wp2_with fail
            refine (errM_any HR7.out).mono ?_
            rintro e w' ⟨rfl, rfl⟩
            by_cases hz : n3 = 0
            · subst hz
              have he := Kp.mk (show endR lh 0 = 0 from if_neg (by have := Hlh.out; omega))
              go_wp2_with fail
              refine (endM_any HR7.out).mono ?_
              rw [he.out]
              rintro e w' ⟨rfl, rfl⟩
              go_wp2_with fail
              go_ret
              exact ⟨rfl, HT7.out⟩
            · have he := Kp.mk (show endR lh 0 = 4 from if_pos (by have := Hlh.out; omega))
              have hz' : ((n3 : Int) == 0) = false := by rw [beq_eq_false_iff_ne]; omega
              clear hz
              go_wp2_with fail
              refine (endM_any HR7.out).mono ?_
              rw [he.out]
              rintro e w' ⟨rfl, rfl⟩
              go_wp2_with fail
              go_ret
              exact ⟨rfl, HT7.out⟩
      · have j2 : (20 : Int) < n := by omega
        subst hor
        have hlb := H2.out.len
        have hlh := H3.out.len
        have rs2 := H2.out.below hT
        have hla := accL_len ls 20
        have htx := Kp.mk (textP_ok (accL ls 20) lb (by omega))
        have hby := ((accL_by ls 20).append (dg_by 2 lb.length)).append hbb
        have hle3 := H3.out.le
        have hlo := ho.len
        have Ho := Kp.mk ho
        clear ho
        go_wp2_with fail
        refine (text_any Ho.out.rd rs2 (Nat.le_refl _) (by have := hT.size; omega) (by omega)).mono ?_
        rw [htx.out]
        rintro e w3 ⟨A5, n5, c5, rfl, ho5, t3⟩
        have hT3 := bstep hT t3 hT.size
        have z3 := t3.size
        have h5l := ho5.len
        simp only [List.length_append, dg_len] at h5l
        have r3 := H3.out.below hT3
        go_wp2_with (at_builtin; refine wpList_append8 rfl (.tmp 63) (.tmp 64) rfl rfl ho5 rfl r3 (by omega) z3 ?_; intro A6 c6 w4 ho6 hb6)
        have t4 := t3.trans hb6
        have z4 := t4.size
        refine (read_any ho6.rd (hby.append hbh) (Nat.le_refl _) (by omega)).mono ?_
        rintro e w5 ⟨g, rfl, hR5, t5⟩
        have t6 := t4.trans (t5.mono z4)
        have hg0 : w4.heap.size ≤ g := by obtain ⟨_, _, _, _, hlo, _⟩ := hR5; exact hlo
        have hgw := hR5.lt
        have hb5 := hb.trans (t6.mono hzr)
        have hR0 := Kp.mk (show Rdr 52 w5 w4.heap.size g (restL ls (dg 2 lb.length ++ lb ++ lh) (20 - 0) 0) 0 by
          have e1 := rest_all ls (dg 2 lb.length ++ lb ++ lh) 20 0
          rw [accL_zero, Nat.zero_add, List.nil_append] at e1
          rw [Nat.sub_zero, e1]
          simpa only [List.append_assoc] using hR5)
        clear hR5 ho5 ho6 hb6 r3 t3 t4 t5 t6 rs2 hby hT hT3 hb h5l hla hlo hle3
        go_wp2_with fail
        go_loopw [15] (fun i wr => ∃ k : Nat, k ≤ 20 ∧ i = .int .i64 k ∧ Kp (Rdr 52 wr w4.heap.size g (restL ls (dg 2 lb.length ++ lb ++ lh) (20 - k) k) 0) ∧ Below (w1.heap.size + 1) (ws3 w1) wr) (fun i _ => 20 - (intOf i).toNat)
        case atStart => exact ⟨0, by omega, rfl, hR0, hb5⟩
        case round =>
          obtain ⟨k, hk_N, rfl, hRk, hb⟩ := hrel
          clear hb5 hR0
          have hzr := ws3_size hb
          have hT := ws3_below T1.out hb
          by_cases hlt : k < 20
          · obtain ⟨j, hj⟩ : ∃ j, 20 - k = j + 1 := ⟨20 - k - 1, by omega⟩
            have hR := hRk.out
            rw [hj, restL] at hR
            clear hRk
            have hl1 : k < n := by omega
            have j1 : (k : Int) < n := by omega
            have j2 : (k : Int) < 20 := by omega
            obtain ⟨bk, off, rfl, hbw, hcell⟩ := (H.out.below hT).at_ (by omega)
            have hck := hcell k hl1
            have hbk : bk ≠ g := by have := T1.out.size; omega
            have hgr := hR.lt
            have hbg : w1.heap.size ≠ g := by omega
            obtain ⟨d0, d1, d2⟩ := ws3_cells hb
            clear hcell hT
            have h012 : k % 3 = 0 ∨ k % 3 = 1 ∨ k % 3 = 2 := by omega
            rcases h012 with hr | hr | hr
            · have j0 : (k : Int) % 3 = 0 := by omega
              have hpc := pc0 ls k hr
              clear hr
              generalize ls.getD k 0 = x at *
              have hv0 := (Ser.bringP_bd x 256 (by omega)).1
              have hv1 := (Ser.bringP_bd x 256 (by omega)).2
              rw [hpc] at hR
              have HR := Kp.mk hR
              clear hR hpc
              have q1 := wr8
              have q2 := shl8
              have q3 : IntKind.i64.wrap ((k : Int) % 3) = 0 := by rw [j0]; decide +kernel
              have q4 : Int.tmod (k : Int) 3 = 0 := by rw [Int.tmod_eq_emod_of_nonneg (by omega)]; exact j0
              have q5 : IntKind.i64.wrap 0 = 0 := by decide +kernel
              generalize hv : Ser.bringP x 256 = v at *
              have Hv := Kp.mk hv
              clear hv
              go_wp2_with fail
              go_region_held3 (fun w' => w'.cell? ⟨bk, off + k, none⟩ = some (.int .i64 x) ∧ w'.cell? ⟨w1.heap.size, 0, none⟩ = some (.int .i64 1))
                (first
                  | exact ⟨hck, d0⟩
                  | exact ⟨grown_cell hgA hck (by omega), grown_cell hgA d0 (by omega)⟩
                  | (go_keep; done))
                (first | (go_at_call 40; refine (Ser.bring_any x 256 _ (by omega) (by omega)).mono ?_; rw [Hv.out]; rintro en wB ⟨rfl, rfl⟩) | (go_at_call 30; refine (num_piece 1 1 rfl (by omega) v hv0 (by omega) (w := wr.drew) HR.out).mono ?_; rintro en wA ⟨rfl, hA, hgA⟩))
              all_goals go_wp2_with fail
              all_goals go_roundw
              all_goals first | exact ⟨k + 1, by omega, by go_num, Kp.mk (by rw [show 20 - (k + 1) = j from by omega]; exact hA), below_grown hb.drew hgA hzr (by omega)⟩ | (simp [intOf]; omega)
            · have j0 : (k : Int) % 3 = 1 := by omega
              have hpc := pc1 ls k hr
              clear hr
              generalize ls.getD k 0 = x at *
              have hv0 := (Ser.bringP_bd x 65536 (by omega)).1
              have hv1 := (Ser.bringP_bd x 65536 (by omega)).2
              rw [hpc] at hR
              have HR := Kp.mk hR
              clear hR hpc
              have q1 := wr16
              have q2 := shl16
              have q3 : IntKind.i64.wrap ((k : Int) % 3) = 1 := by rw [j0]; decide +kernel
              have q4 : Int.tmod (k : Int) 3 = 1 := by rw [Int.tmod_eq_emod_of_nonneg (by omega)]; exact j0
              have q5 : IntKind.i64.wrap 1 = 1 := by decide +kernel
              generalize hv : Ser.bringP x 65536 = v at *
              have Hv := Kp.mk hv
              clear hv
              go_wp2_with fail
              go_region_held3 (fun w' => w'.cell? ⟨bk, off + k, none⟩ = some (.int .i64 x) ∧ w'.cell? ⟨w1.heap.size, 1, none⟩ = some (.int .i64 2))
                (first
                  | exact ⟨hck, d1⟩
                  | exact ⟨grown_cell hgA hck (by omega), grown_cell hgA d1 (by omega)⟩
                  | (go_keep; done))
                (first | (go_at_call 40; refine (Ser.bring_any x 65536 _ (by omega) (by omega)).mono ?_; rw [Hv.out]; rintro en wB ⟨rfl, rfl⟩) | (go_at_call 30; refine (num_piece 2 2 rfl (by omega) v hv0 (by omega) (w := wr.drew) HR.out).mono ?_; rintro en wA ⟨rfl, hA, hgA⟩))
              all_goals go_wp2_with fail
              all_goals go_roundw
              all_goals first | exact ⟨k + 1, by omega, by go_num, Kp.mk (by rw [show 20 - (k + 1) = j from by omega]; exact hA), below_grown hb.drew hgA hzr (by omega)⟩ | (simp [intOf]; omega)
            · have j0 : (k : Int) % 3 = 2 := by omega
              have hpc := pc2 ls k hr
              clear hr
              generalize ls.getD k 0 = x at *
              have hv0 := (Ser.bringP_bd x 4294967296 (by omega)).1
              have hv1 := (Ser.bringP_bd x 4294967296 (by omega)).2
              rw [hpc] at hR
              have HR := Kp.mk hR
              clear hR hpc
              have q1 := wr32
              have q2 := shl32
              have q3 : IntKind.i64.wrap ((k : Int) % 3) = 2 := by rw [j0]; decide +kernel
              have q4 : Int.tmod (k : Int) 3 = 2 := by rw [Int.tmod_eq_emod_of_nonneg (by omega)]; exact j0
              have q5 : IntKind.i64.wrap 2 = 2 := by decide +kernel
              generalize hv : Ser.bringP x 4294967296 = v at *
              have Hv := Kp.mk hv
              clear hv
              go_wp2_with fail
              go_region_held3 (fun w' => w'.cell? ⟨bk, off + k, none⟩ = some (.int .i64 x) ∧ w'.cell? ⟨w1.heap.size, 2, none⟩ = some (.int .i64 4))
                (first
                  | exact ⟨hck, d2⟩
                  | exact ⟨grown_cell hgA hck (by omega), grown_cell hgA d2 (by omega)⟩
                  | (go_keep; done))
                (first | (go_at_call 40; refine (Ser.bring_any x 4294967296 _ (by omega) (by omega)).mono ?_; rw [Hv.out]; rintro en wB ⟨rfl, rfl⟩) | (go_at_call 30; refine (num_piece 4 4 rfl (by omega) v hv0 (by omega) (w := wr.drew) HR.out).mono ?_; rintro en wA ⟨rfl, hA, hgA⟩))
              all_goals go_wp2_with fail
              all_goals go_roundw
              all_goals first | exact ⟨k + 1, by omega, by go_num, Kp.mk (by rw [show 20 - (k + 1) = j from by omega]; exact hA), below_grown hb.drew hgA hzr (by omega)⟩ | (simp [intOf]; omega)
          · obtain rfl : k = 20 := by omega
            have hR := hRk.out
            rw [Nat.sub_self, restL] at hR
            clear hRk hlt
            have htp := textR_piece lb lh (by omega)
            have hRt := textM_any hR
            rw [htp] at hRt
            have HRt := Kp.mk hRt
            clear hRt htp hR
            have r2 := H2.out.below hT
            have HT := Kp.mk hT
            have Hlh := Kp.mk hlh
            clear hT hlh hlb
            go_wp2_with fail
            refine HRt.out.mono ?_
            rintro e w6 ⟨A7, n7, c7, rfl, ho7, hR7, hg7⟩
            have hT7 := below_grown HT.out hg7 (by have := HT.out.size; omega) (by have := T1.out.size; omega)
            have r7 := H2.out.below hT7
            have HR7 := Kp.mk hR7
            have HT7 := Kp.mk hT7
            have Ho7 := Kp.mk ho7
            clear hR7 hT7 ho7 hg7 HRt r2
            go_wp2_with fail
            refine (eqBytes_any Ho7.out.rd r7 hbb hbb).mono ?_
            rw [show decide (lb = lb) = true from by simp]
            rintro e w' ⟨rfl, rfl⟩
            go_wp2_with fail
            refine (leftM_any HR7.out).mono ?_
            rw [Hlh.out]
            rintro e w' ⟨rfl, rfl⟩
            go_wp2_with fail
            refine (errM_any HR7.out).mono ?_
            rintro e w' ⟨rfl, rfl⟩
            by_cases hz : n3 = 0
            · subst hz
              have he := Kp.mk (show endR lh 0 = 0 from if_neg (by have := Hlh.out; omega))
              go_wp2_with fail
              refine (endM_any HR7.out).mono ?_
              rw [he.out]
              rintro e w' ⟨rfl, rfl⟩
              go_wp2_with fail
              go_ret
              exact ⟨rfl, HT7.out⟩
            · have he := Kp.mk (show endR lh 0 = 4 from if_pos (by have := Hlh.out; omega))
              have hz' : ((n3 : Int) == 0) = false := by rw [beq_eq_false_iff_ne]; omega
              clear hz
              go_wp2_with fail
              refine (endM_any HR7.out).mono ?_
              rw [he.out]
              rintro e w' ⟨rfl, rfl⟩
              go_wp2_with fail
              go_ret
              exact ⟨rfl, HT7.out⟩
end Go.Proofs.Ytefohkhipnikhaa.Oct
