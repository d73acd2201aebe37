/- Statements of layer 13 (sender): SenderKnown, the walk. -/
import Derived.Test.YtkpjnikbcgngbaaSndR
namespace Go.Proofs.Ytkpjnikbcgngbaa.Oct
open Go.RowKit
set_option linter.unusedVariables false
set_option linter.unusedSimpArgs false
theorem agg_do : Agg 32 3 := ⟨⟨_, Try.underlying32, rfl⟩, by kernel_rfl⟩
theorem agg_sender : Agg 55 4 := ⟨⟨_, Try.underlying55, rfl⟩, by kernel_rfl⟩
theorem Ds.wider {w : World} {B B' : Nat} {A : Option Addr} {n c : Nat} {ds : List DoS} (h : Ds w B A n c ds) (hB : B ≤ B') : Ds w B' A n c ds :=
  ⟨h.len, h.le, h.cap, h.nil, fun d hd => ⟨(h.bytes d hd).1.more hB, (h.bytes d hd).2⟩, fun hn => by
    obtain ⟨b, off, e, hlt, hc⟩ := h.ex hn
    exact ⟨b, off, e, Nat.lt_of_lt_of_le hlt hB, hc⟩⟩
/-- The numbers at the ends. -/
def endsL : List Int := [-9223372036854775808, -1, 0, 1, 4, 5, 65534, 65535, 65536, 9223372036854775807]
/-- What a round puts behind the row. -/
def fiveD (g : Nat) (x y : Int) : List DoS := [⟨0, 0, some ⟨g, 0, none⟩, 1, 1, [x]⟩, ⟨1, 0, none, 0, 0, []⟩, ⟨3, y, none, 0, 0, []⟩, ⟨2, 0, none, 0, 0, []⟩, ⟨4, 1, none, 0, 0, []⟩]
set_option maxRecDepth 100000 in
set_option maxHeartbeats 16000000 in
theorem senderKnown_any (W : World) : Calls Try.prog 6 #[] W fun e w' => e = .returned (.bool true) ∧ Below W.heap.size W w' := by
  obtain ⟨lo, hlo⟩ : ∃ lo, lo = W.heap.size := ⟨_, rfl⟩
  rw [← hlo]
  have HLO := Kp.mk hlo
  clear hlo
  have HB0 : Kp (Below lo W W) := ⟨Below.refl _ _⟩
  go_enter Try.func6, Try.ntmps6
  go_wp2_with fail
  go_loopw [1, 2] (fun s1 s2 wr => ∃ (i : Nat) (a : Option Addr), s1 = .pointer a ∧ s2 = .int .i64 i ∧ i ≤ 2 ∧ NS wr a ∧ Below lo W wr) (fun _ s2 _ => 2 - (intOf s2).toNat)
  case atStart => exact ⟨0, none, rfl, rfl, by omega, .inl rfl, HB0.out⟩
  case round =>
    obtain ⟨i, a, rfl, rfl, hi, hN, hB⟩ := hrel
    by_cases hlt : (i : Int) < 2
    · have k1 := hN.heard (-1)
      have k2 := hN.put (.slice none 0 0)
      have k3 := hN.fresh
      have k4 := hN.again
      have k5 := hN.left
      have k6 := hN.saidN
      have k7 := hN.next
      have HB := Kp.mk hB
      have HI := Kp.mk hlt
      clear hN hB hi
      go_wp2_with (first | (go_at_call 21; refine k1.mono ?_; rintro e u1 ⟨rfl, hu⟩; replace hu := hu.symm; subst hu) | (go_at_call 18; refine k2.mono ?_; rintro e u1 ⟨rfl, hu⟩; replace hu := hu.symm; subst hu) | (go_at_call 19; refine k3.mono ?_; rintro e u1 ⟨rfl, hu⟩; replace hu := hu.symm; subst hu) | (go_at_call 22; refine k4.mono ?_; rintro e u1 ⟨rfl, hu⟩; replace hu := hu.symm; subst hu) | (go_at_call 10; refine k5.mono ?_; rintro e u1 ⟨rfl, hu⟩; replace hu := hu.symm; subst hu) | (go_at_call 12; refine k6.mono ?_; rintro e u1 ⟨rfl, hu⟩; replace hu := hu.symm; subst hu) | (go_at_call 14; refine k7.mono ?_; rintro e u1 ⟨rfl, hu⟩; replace hu := hu.symm; subst hu))
      have hV := Vb.new 55 wr [.int .u16 0, .int .i64 0, .slice none 0 0, .chan none]
      have hBn := HB.out.trans ((below_alloc wr (.cells #[.int .u16 0, .int .i64 0, .slice none 0 0, .chan none] 55)).mono (by have := HB.out.size; rw [HLO.out]; exact this))
      go_roundw
      case rel => exact ⟨i + 1, _, rfl, by go_num, by have := HI.out; omega, .inr ⟨_, rfl, hV⟩, hBn⟩
      case measure => have := HI.out; simp [intOf]; omega
    · have HB := Kp.mk hB
      clear hB hN
      go_wp2_with fail
      have hR3 : Rd .i64 (wr.alloc (.cells (endsL.map (Value.int .i64)).toArray 3)) (wr.heap.size + 1) (some ⟨wr.heap.size, 0, none⟩) 10 10 endsL := rd_lit .i64 wr 3 endsL (by simp [maxLen, endsL]) _ (by simp)
      have hB3 := HB.out.trans ((below_alloc wr (.cells (endsL.map (Value.int .i64)).toArray 3)).mono (by have := HB.out.size; rw [HLO.out]; exact this))
      change Rd .i64 (wr.alloc (.cells #[.int .i64 (-9223372036854775808), .int .i64 (-1), .int .i64 0, .int .i64 1, .int .i64 4, .int .i64 5, .int .i64 65534, .int .i64 65535, .int .i64 65536, .int .i64 9223372036854775807] 3)) _ _ _ _ _ at hR3
      change Below lo W (wr.alloc (.cells #[.int .i64 (-9223372036854775808), .int .i64 (-1), .int .i64 0, .int .i64 1, .int .i64 4, .int .i64 5, .int .i64 65534, .int .i64 65535, .int .i64 65536, .int .i64 9223372036854775807] 3)) at hB3
      have hsz := Kp.mk (show lo ≤ wr.heap.size + 1 by have := HB.out.size; have := HLO.out; omega)
      have hz3 : (wr.alloc (.cells #[.int .i64 (-9223372036854775808), .int .i64 (-1), .int .i64 0, .int .i64 1, .int .i64 4, .int .i64 5, .int .i64 65534, .int .i64 65535, .int .i64 65536, .int .i64 9223372036854775807] 3)).heap.size = wr.heap.size + 1 := by simp
      rw [← hz3] at hR3
      generalize wr.alloc _ = w3 at *
      have hlo3 := Kp.mk (show lo ≤ w3.heap.size by rw [hz3]; exact hsz.out)
      clear hz3 hsz
      generalize wr.heap.size = ge at *
      have HR3 := Kp.mk hR3
      have HB3 := Kp.mk hB3
      clear hR3 hB3 HB hlt
      obtain ⟨b3, hb3⟩ : ∃ b3, b3 = w3.heap.size := ⟨_, rfl⟩
      have HB3E := Kp.mk hb3
      go_loopw [6, 7] (fun s6 s7 wq => ∃ (j : Nat) (ds : List DoS), s7 = .int .i64 j ∧ j ≤ 10 ∧ Od wq b3 s6 (j * 5) ds ∧ Below b3 w3 wq) (fun _ s7 _ => 10 - (intOf s7).toNat)
      case atStart => exact ⟨0, [], rfl, by omega, Od.nil0 _ _, Below.refl _ _⟩
      case round =>
        clear hb3
        obtain ⟨j, ds, rfl, hj, hO, hB⟩ := hrel
        obtain ⟨A6, c6, rfl, -⟩ := hO.form
        by_cases hlt : (j : Int) < 10
        · have hbj := below_alloc wr (.cells #[.int .u8 (j : Int)] 5)
          have hr := HR3.out.below (by rw [← HB3E.out]; exact hB.trans (hbj.mono (by rw [HB3E.out]; exact hB.size)))
          obtain ⟨bb, off, hA, hbl, hcc⟩ := hr.at_ (by omega)
          have hA := Option.some.inj hA
          injection hA with hA1 hA2 _
          subst hA1 hA2
          have d0 := hcc j (by omega)
          rw [Nat.zero_add] at d0
          generalize endsL.getD j 0 = ev at *
          have HO := Kp.mk hO
          have HB := Kp.mk hB
          have HJ := Kp.mk hlt
          have hO1 := HO.out.below hbj
          have hf := dby_one wr (j : Int) (by omega)
          have hbase : b3 ≤ (wr.alloc (.cells #[.int .u8 (j : Int)] 5)).heap.size := Nat.le_trans (by rw [HB3E.out]; exact hB.size) hbj.size
          have hB1 := Kp.mk (HB.out.trans (hbj.mono (by rw [HB3E.out]; exact hB.size)))
          obtain ⟨A7, c7, w7, hrun, hO7, hb7⟩ := hO1.more (m := 5) (es := fiveD wr.heap.size j ev) 22 rfl (by
            intro d hd
            simp only [fiveD, List.mem_cons, List.not_mem_nil, or_false] at hd
            rcases hd with rfl | rfl | rfl | rfl | rfl
            · exact hf
            · exact dby_none _
            · exact dby_none _
            · exact dby_none _
            · exact dby_none _) (by omega) hbase
          have HO7 := Kp.mk hO7
          have HB7 := Kp.mk (hB1.out.trans hb7)
          have hrun : (Builtin.append_ #[22, 22] 22 #[.slice A6 (j * 5) c6, .slice (some ⟨wr.heap.size + 1, 0, none⟩) 5 5]).run Try.prog ((wr.alloc (.cells #[.int .u8 (j : Int)] 5)).alloc (.cells #[.int .i64 0, .int .i64 0, .slice (some ⟨wr.heap.size, 0, none⟩) 1 1, .int .i64 1, .int .i64 0, .slice none 0 0, .int .i64 3, .int .i64 ev, .slice none 0 0, .int .i64 2, .int .i64 0, .slice none 0 0, .int .i64 4, .int .i64 1, .slice none 0 0] 32)) = .ok (.slice A7 (j * 5 + 5) c7) w7 := by
            rw [show wr.heap.size + 1 = (wr.alloc (.cells #[.int .u8 (j : Int)] 5)).heap.size by simp]
            exact hrun
          clear hr hcc hO hB hO1 hf hbase hB1 hO7 hb7 HO HB hbj
          go_wp2_with (at_builtin; refine Lib.wpList_append_run _ rfl _ _ _ _ rfl _ _ rfl rfl _ _ hrun ?_)
          go_roundw
          case rel => exact ⟨j + 1, _, by go_num, by have := HJ.out; omega, by rw [show (j + 1) * 5 = j * 5 + 5 by omega]; exact HO7.out, HB7.out⟩
          case measure => have := HJ.out; simp [intOf]; omega
        · have HO := Kp.mk hO
          have HB := Kp.mk hB
          have HJ := Kp.mk (show j * 5 ≤ 50 by omega)
          clear hO hB hj
          go_upto_region 15 with fail
          clear hlt
          refine wp_region_held_drew (S := fun X => Below b3 w3 X) (by kernel_rfl) HB.out.drew (fun hS0 => ?_)
          have hbd := (Below.refl wr.heap.size wr).drew
          have hO := HO.out.below hbd
          have hB : Below b3 w3 wr.drew := hS0
          clear HO HB hbd
          generalize wr.drew = u at *
          refine takeD (i := 0) (v := .slice A6 (j * 5) c6) (some 69) rfl rfl (by kernel_rfl) (by kernel_rfl) (by kernel_rfl) (fun _ _ _ h => h) (Or.inl ⟨by rfl, ?_⟩) hB ?_
          · rintro w' _
            go_simp
          try simp only [Act.put, List.setIfInBounds_toArray, List.set_cons_zero, List.set_cons_succ]
          refine takeD (i := 5) (v := .agg #[.int .i64 0, .int .i64 0, .slice none 0 0]) (some 74) rfl rfl (by kernel_rfl) (by kernel_rfl) (by kernel_rfl) (fun _ _ _ h => h) (Or.inl ⟨by rfl, ?_⟩) hB ?_
          · rintro w' _
            go_simp
          try simp only [Act.put, List.setIfInBounds_toArray, List.set_cons_zero, List.set_cons_succ]
          refine takeD (i := 6) (v := .agg #[.int .i64 1, .int .i64 0, .slice none 0 0]) (some 75) rfl rfl (by kernel_rfl) (by kernel_rfl) (by kernel_rfl) (fun _ _ _ h => h) (Or.inl ⟨by rfl, ?_⟩) hB ?_
          · rintro w' _
            go_simp
          try simp only [Act.put, List.setIfInBounds_toArray, List.set_cons_zero, List.set_cons_succ]
          refine takeD (i := 7) (v := .agg #[.int .i64 4, .int .i64 5, .slice none 0 0]) (some 76) rfl rfl (by kernel_rfl) (by kernel_rfl) (by kernel_rfl) (fun _ _ _ h => h) (Or.inl ⟨by rfl, ?_⟩) hB ?_
          · rintro w' _
            go_simp
          try simp only [Act.put, List.setIfInBounds_toArray, List.set_cons_zero, List.set_cons_succ]
          refine takeD (i := 8) (v := .agg #[.int .i64 4, .int .i64 3, .slice none 0 0]) (some 77) rfl rfl (by kernel_rfl) (by kernel_rfl) (by kernel_rfl) (fun _ _ _ h => h) (Or.inl ⟨by rfl, ?_⟩) hB ?_
          · rintro w' _
            go_simp
          try simp only [Act.put, List.setIfInBounds_toArray, List.set_cons_zero, List.set_cons_succ]
          refine wpAnyH_ready (rs := [1, 3]) (by kernel_rfl) (by simp) ?_
          refine AllReadyH.cons rfl (fun K hK => ?_) (AllReadyH.cons rfl (fun K hK => ?_) AllReadyH.nil)
          · skip
            try rw [if_pos (by rfl)]
            have hbn := below_alloc u (noughtsS 256)
            have hz256 := dby_zeros 256 (by omega) u
            have hO := hO.below hbn
            have hB := hB.trans (hbn.mono (by rw [HB3E.out]; exact hB.size))
            have hmk := run_zerosS 256 (by omega) 256 rfl u
            go_simp
            refine hK.out _ _ hB (fun _ => ?_)
            clear hK K
            try simp only [Act.put, List.setIfInBounds_toArray, List.set_cons_zero, List.set_cons_succ]
            clear hmk hbn
            obtain ⟨g1, hg1⟩ : ∃ g, g = u.heap.size := ⟨_, rfl⟩
            rw [← hg1] at hz256
            rw [← hg1]
            clear hg1
            generalize u.alloc (noughtsS 256) = u1 at *
            have hy := hz256
            refine takeD (i := 2) (v := .agg #[.int .i64 0, .int .i64 0, .slice (some ⟨g1, 0, none⟩) 256 256]) (some 71) rfl rfl (by kernel_rfl) (by kernel_rfl) (by kernel_rfl) (fun _ _ _ h => h) (Or.inl ⟨by rfl, ?_⟩) hB ?_
            · rintro w' _
              go_simp
            try simp only [Act.put, List.setIfInBounds_toArray, List.set_cons_zero, List.set_cons_succ]
            refine wpAnyH_ready (rs := [3]) (by kernel_rfl) (by simp) ?_
            refine AllReadyH.cons rfl (fun K hK => ?_) AllReadyH.nil
            try rw [if_pos (by rfl)]
            have hbn := below_alloc u1 (noughtsS 257)
            have hz257 := dby_zeros 257 (by omega) u1
            have hy := hy.below hbn
            have hO := hO.below hbn
            have hB := hB.trans (hbn.mono (by rw [HB3E.out]; exact hB.size))
            have hmk := run_zerosS 257 (by omega) 257 rfl u1
            go_simp
            refine hK.out _ _ hB (fun _ => ?_)
            clear hK K
            try simp only [Act.put, List.setIfInBounds_toArray, List.set_cons_zero, List.set_cons_succ]
            clear hmk hbn
            obtain ⟨g2, hg2⟩ : ∃ g, g = u1.heap.size := ⟨_, rfl⟩
            rw [← hg2] at hz257
            rw [← hg2]
            clear hg2
            generalize u1.alloc (noughtsS 257) = u2 at *
            have h256 := hy
            have h257 := hz257
            clear hy hz256 hz257
            refine takeD (i := 4) (v := .agg #[.int .i64 0, .int .i64 0, .slice (some ⟨g2, 0, none⟩) 257 257]) (some 73) rfl rfl (by kernel_rfl) (by kernel_rfl) (by kernel_rfl) (fun _ _ _ h => h) (Or.inl ⟨by rfl, ?_⟩) hB ?_
            · rintro w' _
              go_simp
            try simp only [Act.put, List.setIfInBounds_toArray, List.set_cons_zero, List.set_cons_succ]
            refine wpAnyH_ready (rs := [9]) (by kernel_rfl) (by simp) ?_
            refine AllReadyH.cons rfl (fun K hK => ?_) AllReadyH.nil
            try rw [if_pos (by rfl)]
            have hbase : b3 ≤ u2.heap.size := by rw [HB3E.out]; exact hB.size
            obtain ⟨A7, c7, w7, hrun, hO7, hb7⟩ := hO.more (m := 6) (es := [⟨0, 0, some ⟨g1, 0, none⟩, 256, 256, List.replicate 256 0⟩, ⟨0, 0, some ⟨g2, 0, none⟩, 257, 257, List.replicate 257 0⟩, ⟨0, 0, none, 0, 0, []⟩, ⟨1, 0, none, 0, 0, []⟩, ⟨4, 5, none, 0, 0, []⟩, ⟨4, 3, none, 0, 0, []⟩]) 22 rfl (by
              intro d hd
              simp only [List.mem_cons, List.not_mem_nil, or_false] at hd
              rcases hd with rfl | rfl | rfl | rfl | rfl | rfl
              · exact h256
              · exact h257
              · exact dby_none _
              · exact dby_none _
              · exact dby_none _
              · exact dby_none _) (by have := HJ.out; omega) hbase
            have hba := below_alloc u2 (.cells #[.int .i64 0, .int .i64 0, .slice (some ⟨g1, 0, none⟩) 256 256, .int .i64 0, .int .i64 0, .slice (some ⟨g2, 0, none⟩) 257 257, .int .i64 0, .int .i64 0, .slice none 0 0, .int .i64 1, .int .i64 0, .slice none 0 0, .int .i64 4, .int .i64 5, .slice none 0 0, .int .i64 4, .int .i64 3, .slice none 0 0] 32)
            have hB8 := hB.trans (hba.mono hbase)
            have hB7 := hB.trans hb7
            have HO7 := Kp.mk hO7
            have hrun : (Builtin.append_ #[22, 22] 22 #[.slice A6 (j * 5) c6, .slice (some ⟨u2.heap.size, 0, none⟩) 6 6]).run Try.prog (u2.alloc (.cells #[.int .i64 0, .int .i64 0, .slice (some ⟨g1, 0, none⟩) 256 256, .int .i64 0, .int .i64 0, .slice (some ⟨g2, 0, none⟩) 257 257, .int .i64 0, .int .i64 0, .slice none 0 0, .int .i64 1, .int .i64 0, .slice none 0 0, .int .i64 4, .int .i64 5, .slice none 0 0, .int .i64 4, .int .i64 3, .slice none 0 0] 32)) = .ok (.slice A7 (j * 5 + 6) c7) w7 := hrun
            clear hO hba hb7 hO7 hbase h256 h257
            go_simp
            refine hK.out _ _ hB8 (fun _ => ?_)
            clear hK K
            try simp only [Act.put, List.setIfInBounds_toArray, List.set_cons_zero, List.set_cons_succ]
            clear hB8
            refine wpAnyH_ready (rs := [10]) (by kernel_rfl) (by simp) ?_
            refine AllReadyH.cons rfl (fun K hK => ?_) AllReadyH.nil
            try rw [if_pos (by rfl)]
            refine sndOp_append (.tmp 69) (.tmp 78) rfl rfl rfl hrun (hK.out _ _ hB7 (fun _ => ?_))
            clear hK K hrun
            try simp only [Act.put, List.setIfInBounds_toArray, List.set_cons_zero, List.set_cons_succ]
            refine takeD (i := 11) (v := .slice A7 (j * 5 + 6) c7) (some 6) rfl rfl (by kernel_rfl) (by kernel_rfl) (by kernel_rfl) (fun _ _ _ h => h) (Or.inl ⟨by rfl, ?_⟩) hB7 ?_
            · rintro w' hq
              go_simp
            try simp only [Act.put, List.setIfInBounds_toArray, List.set_cons_zero, List.set_cons_succ]
            refine wpAnyH_done (by kernel_rfl) ?_ _
            have HB7 := Kp.mk hB7
            clear hB7 hB hS0
            obtain ⟨N, hN⟩ : ∃ N, N = j * 5 + 6 := ⟨_, rfl⟩
            rw [← hN] at HO7
            rw [← hN]
            clear hN
            have HD := Kp.mk HO7.out.dsof
            clear HO7
            have HE7 := Kp.mk (HR3.out.below (by rw [← HB3E.out]; exact HB7.out))
            go_wp2_with fail
            go_loopw [8, 9] (fun s8 _ wr => ∃ x : Nat, s8 = .int .i64 x ∧ x ≤ 10 ∧ Below w7.heap.size w7 wr) (fun s8 _ _ => 10 - (intOf s8).toNat)
            case atStart => exact ⟨0, rfl, by omega, Below.refl _ _⟩
            case round =>
              obtain ⟨x, rfl, hx, hB⟩ := hrel
              by_cases hlx : (x : Int) < 10
              · have HB8 := Kp.mk hB
                have HXX := Kp.mk hlx
                clear hB hx
                go_wp2_with fail
                go_loopw [9] (fun s9 wr => ∃ y : Nat, s9 = .int .i64 y ∧ y ≤ 10 ∧ Below w7.heap.size w7 wr) (fun s9 _ => 10 - (intOf s9).toNat)
                case atStart => exact ⟨0, rfl, by omega, HB8.out⟩
                case round =>
                  obtain ⟨y, rfl, hy, hB⟩ := hrel
                  by_cases hly : (y : Int) < 10
                  · have HYY := Kp.mk hly
                    have hxn : ¬ (x : Int) < 0 := by omega
                    have hyn : ¬ (y : Int) < 0 := by omega
                    obtain ⟨ex, hex⟩ : ∃ ex, ex = endsL.getD x 0 := ⟨_, rfl⟩
                    obtain ⟨ey, hey⟩ : ∃ ey, ey = endsL.getD y 0 := ⟨_, rfl⟩
                    have HCE := Kp.mk (show w7.cell? ⟨ge, x, none⟩ = some (.int .i64 ex) ∧ w7.cell? ⟨ge, y, none⟩ = some (.int .i64 ey) ∧ ge < w7.heap.size from by
                      obtain ⟨bb, off, hA, hbl, hcc⟩ := HE7.out.at_ (by omega)
                      have hA := Option.some.inj hA
                      injection hA with hA1 hA2 _
                      subst hA1 hA2
                      have d0 := hcc x (by have := HXX.out; omega)
                      have d1 := hcc y (by have := HYY.out; omega)
                      rw [Nat.zero_add] at d0 d1
                      exact ⟨by rw [hex]; exact d0, by rw [hey]; exact d1, Nat.lt_of_lt_of_le hbl (by rw [← HB3E.out]; rw [HB3E.out]; exact HB7.out.size)⟩)
                    obtain ⟨r4, hr4⟩ : ∃ r4, Int.tmod (y : Int) 4 = r4 := ⟨_, rfl⟩
                    obtain ⟨a4, ha4⟩ : ∃ a4, IntKind.i64.wrap (1 + r4) = a4 := ⟨_, rfl⟩
                    obtain ⟨r6, hr6⟩ : ∃ r6, Int.tmod (y : Int) 6 = r6 := ⟨_, rfl⟩
                    obtain ⟨a6, ha6⟩ : ∃ a6, IntKind.i64.wrap (65530 + r6) = a6 := ⟨_, rfl⟩
                    have HB9 := Kp.mk hB
                    clear hex hey hy hB
                    go_upto_region 22 with fail
                    refine wp_region_held_drew (S := fun X => Below w7.heap.size w7 X) (by kernel_rfl) HB9.out.drew (fun hS0 => ?_)
                    generalize wr.drew = u at *
                    refine takeD (i := 0) (v := .slice (some ⟨ge, 0, none⟩) 10 10) (some 92) rfl rfl (by kernel_rfl) (by kernel_rfl) (by kernel_rfl) (fun _ _ _ h => h) (Or.inl ⟨by rfl, ?_⟩) hS0 ?_
                    · rintro w' hq
                      go_simp
                    try simp only [Act.put, List.setIfInBounds_toArray, List.set_cons_zero, List.set_cons_succ]
                    refine takeD (i := 1) (v := .int .i64 x) (some 93) rfl rfl (by kernel_rfl) (by kernel_rfl) (by kernel_rfl) (fun _ _ _ h => h) (Or.inl ⟨by rfl, ?_⟩) hS0 ?_
                    · rintro w' hq
                      go_simp
                    try simp only [Act.put, List.setIfInBounds_toArray, List.set_cons_zero, List.set_cons_succ]
                    refine takeD (i := 2) (v := .pointer (some ⟨ge, x, none⟩)) (some 94) rfl rfl (by kernel_rfl) (by kernel_rfl) (by kernel_rfl) (fun _ _ _ h => h) (Or.inl ⟨by rfl, ?_⟩) hS0 ?_
                    · rintro w' hq
                      go_simp
                    try simp only [Act.put, List.setIfInBounds_toArray, List.set_cons_zero, List.set_cons_succ]
                    refine takeD (i := 3) (v := .int .i64 ex) (some 95) rfl rfl (by kernel_rfl) (by kernel_rfl) (by kernel_rfl) (fun _ _ _ h => h) (Or.inl ⟨by rfl, ?_⟩) hS0 ?_
                    · rintro w' hq
                      have d0 := (hq.cell (p := ⟨ge, x, none⟩) HCE.out.2.2).trans HCE.out.1
                      go_simp
                    try simp only [Act.put, List.setIfInBounds_toArray, List.set_cons_zero, List.set_cons_succ]
                    refine takeD (i := 4) (v := .slice (some ⟨ge, 0, none⟩) 10 10) (some 96) rfl rfl (by kernel_rfl) (by kernel_rfl) (by kernel_rfl) (fun _ _ _ h => h) (Or.inl ⟨by rfl, ?_⟩) hS0 ?_
                    · rintro w' hq
                      go_simp
                    try simp only [Act.put, List.setIfInBounds_toArray, List.set_cons_zero, List.set_cons_succ]
                    refine takeD (i := 5) (v := .int .i64 y) (some 97) rfl rfl (by kernel_rfl) (by kernel_rfl) (by kernel_rfl) (fun _ _ _ h => h) (Or.inl ⟨by rfl, ?_⟩) hS0 ?_
                    · rintro w' hq
                      go_simp
                    try simp only [Act.put, List.setIfInBounds_toArray, List.set_cons_zero, List.set_cons_succ]
                    refine takeD (i := 6) (v := .pointer (some ⟨ge, y, none⟩)) (some 98) rfl rfl (by kernel_rfl) (by kernel_rfl) (by kernel_rfl) (fun _ _ _ h => h) (Or.inl ⟨by rfl, ?_⟩) hS0 ?_
                    · rintro w' hq
                      go_simp
                    try simp only [Act.put, List.setIfInBounds_toArray, List.set_cons_zero, List.set_cons_succ]
                    refine takeD (i := 7) (v := .int .i64 ey) (some 99) rfl rfl (by kernel_rfl) (by kernel_rfl) (by kernel_rfl) (fun _ _ _ h => h) (Or.inl ⟨by rfl, ?_⟩) hS0 ?_
                    · rintro w' hq
                      have d0 := (hq.cell (p := ⟨ge, y, none⟩) HCE.out.2.2).trans HCE.out.2.1
                      go_simp
                    try simp only [Act.put, List.setIfInBounds_toArray, List.set_cons_zero, List.set_cons_succ]
                    refine takeD (i := 8) (v := .slice A7 N c7) (some 100) rfl rfl (by kernel_rfl) (by kernel_rfl) (by kernel_rfl) (fun _ _ _ h => h) (Or.inl ⟨by rfl, ?_⟩) hS0 ?_
                    · rintro w' hq
                      go_simp
                    try simp only [Act.put, List.setIfInBounds_toArray, List.set_cons_zero, List.set_cons_succ]
                    refine wpAnyH_ready (rs := [9]) (by kernel_rfl) (by simp) ?_
                    refine AllReadyH.cons rfl (fun K hK => ?_) AllReadyH.nil
                    try rw [if_pos (by rfl)]
                    go_simp
                    refine (senderPlays_any ex ey ((HD.out.below hS0).wider hS0.size)).mono ?_
                    rintro e u1 ⟨rfl, hb1⟩
                    have hS1 := hS0.trans (hb1.mono hS0.size)
                    clear hb1
                    refine hK.out _ _ hS1 (fun _ => ?_)
                    clear hK K
                    try simp only [Act.put, List.setIfInBounds_toArray, List.set_cons_zero, List.set_cons_succ]
                    refine takeD (i := 10) (v := .bool false) (some 102) rfl rfl (by kernel_rfl) (by kernel_rfl) (by kernel_rfl) (fun _ _ _ h => h) (Or.inl ⟨by rfl, ?_⟩) hS1 ?_
                    · rintro w' hq
                      go_simp
                    try simp only [Act.put, List.setIfInBounds_toArray, List.set_cons_zero, List.set_cons_succ]
                    refine takeD (i := 11) (v := .bool false) (some 103) rfl rfl (by kernel_rfl) (by kernel_rfl) (by kernel_rfl) (fun _ _ _ h => h) (Or.inl ⟨by rfl, ?_⟩) hS1 ?_
                    · rintro w' hq
                      go_simp
                    try simp only [Act.put, List.setIfInBounds_toArray, List.set_cons_zero, List.set_cons_succ]
                    refine takeD (i := 12) (v := .int .i64 y) (some 104) rfl rfl (by kernel_rfl) (by kernel_rfl) (by kernel_rfl) (fun _ _ _ h => h) (Or.inl ⟨by rfl, ?_⟩) hS1 ?_
                    · rintro w' hq
                      go_simp
                    try simp only [Act.put, List.setIfInBounds_toArray, List.set_cons_zero, List.set_cons_succ]
                    refine takeD (i := 13) (v := .int .i64 r4) (some 105) rfl rfl (by kernel_rfl) (by kernel_rfl) (by kernel_rfl) (fun _ _ _ h => h) (Or.inl ⟨by rfl, ?_⟩) hS1 ?_
                    · rintro w' hq
                      go_simp
                    try simp only [Act.put, List.setIfInBounds_toArray, List.set_cons_zero, List.set_cons_succ]
                    refine takeD (i := 14) (v := .int .i64 a4) (some 106) rfl rfl (by kernel_rfl) (by kernel_rfl) (by kernel_rfl) (fun _ _ _ h => h) (Or.inl ⟨by rfl, ?_⟩) hS1 ?_
                    · rintro w' hq
                      go_simp
                    try simp only [Act.put, List.setIfInBounds_toArray, List.set_cons_zero, List.set_cons_succ]
                    refine takeD (i := 15) (v := .int .i64 y) (some 107) rfl rfl (by kernel_rfl) (by kernel_rfl) (by kernel_rfl) (fun _ _ _ h => h) (Or.inl ⟨by rfl, ?_⟩) hS1 ?_
                    · rintro w' hq
                      go_simp
                    try simp only [Act.put, List.setIfInBounds_toArray, List.set_cons_zero, List.set_cons_succ]
                    refine takeD (i := 16) (v := .int .i64 r6) (some 108) rfl rfl (by kernel_rfl) (by kernel_rfl) (by kernel_rfl) (fun _ _ _ h => h) (Or.inl ⟨by rfl, ?_⟩) hS1 ?_
                    · rintro w' hq
                      go_simp
                    try simp only [Act.put, List.setIfInBounds_toArray, List.set_cons_zero, List.set_cons_succ]
                    refine takeD (i := 17) (v := .int .i64 a6) (some 109) rfl rfl (by kernel_rfl) (by kernel_rfl) (by kernel_rfl) (fun _ _ _ h => h) (Or.inl ⟨by rfl, ?_⟩) hS1 ?_
                    · rintro w' hq
                      go_simp
                    try simp only [Act.put, List.setIfInBounds_toArray, List.set_cons_zero, List.set_cons_succ]
                    refine takeD (i := 18) (v := .slice A7 N c7) (some 110) rfl rfl (by kernel_rfl) (by kernel_rfl) (by kernel_rfl) (fun _ _ _ h => h) (Or.inl ⟨by rfl, ?_⟩) hS1 ?_
                    · rintro w' hq
                      go_simp
                    try simp only [Act.put, List.setIfInBounds_toArray, List.set_cons_zero, List.set_cons_succ]
                    refine wpAnyH_ready (rs := [19]) (by kernel_rfl) (by simp) ?_
                    refine AllReadyH.cons rfl (fun K hK => ?_) AllReadyH.nil
                    try rw [if_pos (by rfl)]
                    go_simp
                    refine (senderPlays_any a4 a6 ((HD.out.below hS1).wider hS1.size)).mono ?_
                    rintro e u2 ⟨rfl, hb2⟩
                    have hS2 := hS1.trans (hb2.mono hS1.size)
                    clear hb2
                    refine hK.out _ _ hS2 (fun _ => ?_)
                    clear hK K
                    try simp only [Act.put, List.setIfInBounds_toArray, List.set_cons_zero, List.set_cons_succ]
                    refine takeD (i := 20) (v := .bool false) (some 112) rfl rfl (by kernel_rfl) (by kernel_rfl) (by kernel_rfl) (fun _ _ _ h => h) (Or.inl ⟨by rfl, ?_⟩) hS2 ?_
                    · rintro w' hq
                      go_simp
                    try simp only [Act.put, List.setIfInBounds_toArray, List.set_cons_zero, List.set_cons_succ]
                    refine takeD (i := 21) (v := .bool false) (some 113) rfl rfl (by kernel_rfl) (by kernel_rfl) (by kernel_rfl) (fun _ _ _ h => h) (Or.inl ⟨by rfl, ?_⟩) hS2 ?_
                    · rintro w' hq
                      go_simp
                    try simp only [Act.put, List.setIfInBounds_toArray, List.set_cons_zero, List.set_cons_succ]
                    refine wpAnyH_done (by kernel_rfl) ?_ _
                    have HS2 := Kp.mk hS2
                    clear hS0 hS1 hS2 hr4 ha4 hr6 ha6
                    go_wp2_with fail
                    go_roundw
                    case rel => exact ⟨y + 1, by go_num, by have := HYY.out; omega, HS2.out⟩
                    case measure => have := HYY.out; simp [intOf]; omega
                  · have HB9 := Kp.mk hB
                    clear hB hy
                    go_wp2_with fail
                    go_roundw
                    case rel => exact ⟨x + 1, by go_num, by have := HXX.out; omega, HB9.out⟩
                    case measure => have := HXX.out; simp [intOf]; omega
              · have HB8 := Kp.mk hB
                clear hB hx
                go_wp2_with fail
                refine (sworks_any _).mono ?_
                rintro e w9 ⟨rfl, hb9⟩
                have HF := Kp.mk (show Below lo W w9 from by
                  have h1 := HB3.out.trans (HB7.out.mono (by rw [HB3E.out]; exact hlo3.out))
                  have h2 := h1.trans (HB8.out.mono (Nat.le_trans hlo3.out (by rw [← HB3E.out]; rw [HB3E.out]; exact HB7.out.size)))
                  exact h2.trans (hb9.mono (Nat.le_trans (Nat.le_trans hlo3.out HB7.out.size) HB8.out.size)))
                clear hb9
                go_wp2_with fail
                go_ret
                exact ⟨rfl, HF.out⟩
          · skip
            try rw [if_pos (by rfl)]
            have hbn := below_alloc u (noughtsS 257)
            have hz257 := dby_zeros 257 (by omega) u
            have hO := hO.below hbn
            have hB := hB.trans (hbn.mono (by rw [HB3E.out]; exact hB.size))
            have hmk := run_zerosS 257 (by omega) 257 rfl u
            go_simp
            refine hK.out _ _ hB (fun _ => ?_)
            clear hK K
            try simp only [Act.put, List.setIfInBounds_toArray, List.set_cons_zero, List.set_cons_succ]
            clear hmk hbn
            obtain ⟨g2, hg2⟩ : ∃ g, g = u.heap.size := ⟨_, rfl⟩
            rw [← hg2] at hz257
            rw [← hg2]
            clear hg2
            generalize u.alloc (noughtsS 257) = u1 at *
            have hy := hz257
            refine takeD (i := 4) (v := .agg #[.int .i64 0, .int .i64 0, .slice (some ⟨g2, 0, none⟩) 257 257]) (some 73) rfl rfl (by kernel_rfl) (by kernel_rfl) (by kernel_rfl) (fun _ _ _ h => h) (Or.inl ⟨by rfl, ?_⟩) hB ?_
            · rintro w' _
              go_simp
            try simp only [Act.put, List.setIfInBounds_toArray, List.set_cons_zero, List.set_cons_succ]
            refine wpAnyH_ready (rs := [1]) (by kernel_rfl) (by simp) ?_
            refine AllReadyH.cons rfl (fun K hK => ?_) AllReadyH.nil
            try rw [if_pos (by rfl)]
            have hbn := below_alloc u1 (noughtsS 256)
            have hz256 := dby_zeros 256 (by omega) u1
            have hy := hy.below hbn
            have hO := hO.below hbn
            have hB := hB.trans (hbn.mono (by rw [HB3E.out]; exact hB.size))
            have hmk := run_zerosS 256 (by omega) 256 rfl u1
            go_simp
            refine hK.out _ _ hB (fun _ => ?_)
            clear hK K
            try simp only [Act.put, List.setIfInBounds_toArray, List.set_cons_zero, List.set_cons_succ]
            clear hmk hbn
            obtain ⟨g1, hg1⟩ : ∃ g, g = u1.heap.size := ⟨_, rfl⟩
            rw [← hg1] at hz256
            rw [← hg1]
            clear hg1
            generalize u1.alloc (noughtsS 256) = u2 at *
            have h257 := hy
            have h256 := hz256
            clear hy hz256 hz257
            refine takeD (i := 2) (v := .agg #[.int .i64 0, .int .i64 0, .slice (some ⟨g1, 0, none⟩) 256 256]) (some 71) rfl rfl (by kernel_rfl) (by kernel_rfl) (by kernel_rfl) (fun _ _ _ h => h) (Or.inl ⟨by rfl, ?_⟩) hB ?_
            · rintro w' _
              go_simp
            try simp only [Act.put, List.setIfInBounds_toArray, List.set_cons_zero, List.set_cons_succ]
            refine wpAnyH_ready (rs := [9]) (by kernel_rfl) (by simp) ?_
            refine AllReadyH.cons rfl (fun K hK => ?_) AllReadyH.nil
            try rw [if_pos (by rfl)]
            have hbase : b3 ≤ u2.heap.size := by rw [HB3E.out]; exact hB.size
            obtain ⟨A7, c7, w7, hrun, hO7, hb7⟩ := hO.more (m := 6) (es := [⟨0, 0, some ⟨g1, 0, none⟩, 256, 256, List.replicate 256 0⟩, ⟨0, 0, some ⟨g2, 0, none⟩, 257, 257, List.replicate 257 0⟩, ⟨0, 0, none, 0, 0, []⟩, ⟨1, 0, none, 0, 0, []⟩, ⟨4, 5, none, 0, 0, []⟩, ⟨4, 3, none, 0, 0, []⟩]) 22 rfl (by
              intro d hd
              simp only [List.mem_cons, List.not_mem_nil, or_false] at hd
              rcases hd with rfl | rfl | rfl | rfl | rfl | rfl
              · exact h256
              · exact h257
              · exact dby_none _
              · exact dby_none _
              · exact dby_none _
              · exact dby_none _) (by have := HJ.out; omega) hbase
            have hba := below_alloc u2 (.cells #[.int .i64 0, .int .i64 0, .slice (some ⟨g1, 0, none⟩) 256 256, .int .i64 0, .int .i64 0, .slice (some ⟨g2, 0, none⟩) 257 257, .int .i64 0, .int .i64 0, .slice none 0 0, .int .i64 1, .int .i64 0, .slice none 0 0, .int .i64 4, .int .i64 5, .slice none 0 0, .int .i64 4, .int .i64 3, .slice none 0 0] 32)
            have hB8 := hB.trans (hba.mono hbase)
            have hB7 := hB.trans hb7
            have HO7 := Kp.mk hO7
            have hrun : (Builtin.append_ #[22, 22] 22 #[.slice A6 (j * 5) c6, .slice (some ⟨u2.heap.size, 0, none⟩) 6 6]).run Try.prog (u2.alloc (.cells #[.int .i64 0, .int .i64 0, .slice (some ⟨g1, 0, none⟩) 256 256, .int .i64 0, .int .i64 0, .slice (some ⟨g2, 0, none⟩) 257 257, .int .i64 0, .int .i64 0, .slice none 0 0, .int .i64 1, .int .i64 0, .slice none 0 0, .int .i64 4, .int .i64 5, .slice none 0 0, .int .i64 4, .int .i64 3, .slice none 0 0] 32)) = .ok (.slice A7 (j * 5 + 6) c7) w7 := hrun
            clear hO hba hb7 hO7 hbase h256 h257
            go_simp
            refine hK.out _ _ hB8 (fun _ => ?_)
            clear hK K
            try simp only [Act.put, List.setIfInBounds_toArray, List.set_cons_zero, List.set_cons_succ]
            clear hB8
            refine wpAnyH_ready (rs := [10]) (by kernel_rfl) (by simp) ?_
            refine AllReadyH.cons rfl (fun K hK => ?_) AllReadyH.nil
            try rw [if_pos (by rfl)]
            refine sndOp_append (.tmp 69) (.tmp 78) rfl rfl rfl hrun (hK.out _ _ hB7 (fun _ => ?_))
            clear hK K hrun
            try simp only [Act.put, List.setIfInBounds_toArray, List.set_cons_zero, List.set_cons_succ]
            refine takeD (i := 11) (v := .slice A7 (j * 5 + 6) c7) (some 6) rfl rfl (by kernel_rfl) (by kernel_rfl) (by kernel_rfl) (fun _ _ _ h => h) (Or.inl ⟨by rfl, ?_⟩) hB7 ?_
            · rintro w' hq
              go_simp
            try simp only [Act.put, List.setIfInBounds_toArray, List.set_cons_zero, List.set_cons_succ]
            refine wpAnyH_done (by kernel_rfl) ?_ _
            have HB7 := Kp.mk hB7
            clear hB7 hB hS0
            obtain ⟨N, hN⟩ : ∃ N, N = j * 5 + 6 := ⟨_, rfl⟩
            rw [← hN] at HO7
            rw [← hN]
            clear hN
            have HD := Kp.mk HO7.out.dsof
            clear HO7
            have HE7 := Kp.mk (HR3.out.below (by rw [← HB3E.out]; exact HB7.out))
            go_wp2_with fail
            go_loopw [8, 9] (fun s8 _ wr => ∃ x : Nat, s8 = .int .i64 x ∧ x ≤ 10 ∧ Below w7.heap.size w7 wr) (fun s8 _ _ => 10 - (intOf s8).toNat)
            case atStart => exact ⟨0, rfl, by omega, Below.refl _ _⟩
            case round =>
              obtain ⟨x, rfl, hx, hB⟩ := hrel
              by_cases hlx : (x : Int) < 10
              · have HB8 := Kp.mk hB
                have HXX := Kp.mk hlx
                clear hB hx
                go_wp2_with fail
                go_loopw [9] (fun s9 wr => ∃ y : Nat, s9 = .int .i64 y ∧ y ≤ 10 ∧ Below w7.heap.size w7 wr) (fun s9 _ => 10 - (intOf s9).toNat)
                case atStart => exact ⟨0, rfl, by omega, HB8.out⟩
                case round =>
                  obtain ⟨y, rfl, hy, hB⟩ := hrel
                  by_cases hly : (y : Int) < 10
                  · have HYY := Kp.mk hly
                    have hxn : ¬ (x : Int) < 0 := by omega
                    have hyn : ¬ (y : Int) < 0 := by omega
                    obtain ⟨ex, hex⟩ : ∃ ex, ex = endsL.getD x 0 := ⟨_, rfl⟩
                    obtain ⟨ey, hey⟩ : ∃ ey, ey = endsL.getD y 0 := ⟨_, rfl⟩
                    have HCE := Kp.mk (show w7.cell? ⟨ge, x, none⟩ = some (.int .i64 ex) ∧ w7.cell? ⟨ge, y, none⟩ = some (.int .i64 ey) ∧ ge < w7.heap.size from by
                      obtain ⟨bb, off, hA, hbl, hcc⟩ := HE7.out.at_ (by omega)
                      have hA := Option.some.inj hA
                      injection hA with hA1 hA2 _
                      subst hA1 hA2
                      have d0 := hcc x (by have := HXX.out; omega)
                      have d1 := hcc y (by have := HYY.out; omega)
                      rw [Nat.zero_add] at d0 d1
                      exact ⟨by rw [hex]; exact d0, by rw [hey]; exact d1, Nat.lt_of_lt_of_le hbl (by rw [← HB3E.out]; rw [HB3E.out]; exact HB7.out.size)⟩)
                    obtain ⟨r4, hr4⟩ : ∃ r4, Int.tmod (y : Int) 4 = r4 := ⟨_, rfl⟩
                    obtain ⟨a4, ha4⟩ : ∃ a4, IntKind.i64.wrap (1 + r4) = a4 := ⟨_, rfl⟩
                    obtain ⟨r6, hr6⟩ : ∃ r6, Int.tmod (y : Int) 6 = r6 := ⟨_, rfl⟩
                    obtain ⟨a6, ha6⟩ : ∃ a6, IntKind.i64.wrap (65530 + r6) = a6 := ⟨_, rfl⟩
                    have HB9 := Kp.mk hB
                    clear hex hey hy hB
                    go_upto_region 22 with fail
                    refine wp_region_held_drew (S := fun X => Below w7.heap.size w7 X) (by kernel_rfl) HB9.out.drew (fun hS0 => ?_)
                    generalize wr.drew = u at *
                    refine takeD (i := 0) (v := .slice (some ⟨ge, 0, none⟩) 10 10) (some 92) rfl rfl (by kernel_rfl) (by kernel_rfl) (by kernel_rfl) (fun _ _ _ h => h) (Or.inl ⟨by rfl, ?_⟩) hS0 ?_
                    · rintro w' hq
                      go_simp
                    try simp only [Act.put, List.setIfInBounds_toArray, List.set_cons_zero, List.set_cons_succ]
                    refine takeD (i := 1) (v := .int .i64 x) (some 93) rfl rfl (by kernel_rfl) (by kernel_rfl) (by kernel_rfl) (fun _ _ _ h => h) (Or.inl ⟨by rfl, ?_⟩) hS0 ?_
                    · rintro w' hq
                      go_simp
                    try simp only [Act.put, List.setIfInBounds_toArray, List.set_cons_zero, List.set_cons_succ]
                    refine takeD (i := 2) (v := .pointer (some ⟨ge, x, none⟩)) (some 94) rfl rfl (by kernel_rfl) (by kernel_rfl) (by kernel_rfl) (fun _ _ _ h => h) (Or.inl ⟨by rfl, ?_⟩) hS0 ?_
                    · rintro w' hq
                      go_simp
                    try simp only [Act.put, List.setIfInBounds_toArray, List.set_cons_zero, List.set_cons_succ]
                    refine takeD (i := 3) (v := .int .i64 ex) (some 95) rfl rfl (by kernel_rfl) (by kernel_rfl) (by kernel_rfl) (fun _ _ _ h => h) (Or.inl ⟨by rfl, ?_⟩) hS0 ?_
                    · rintro w' hq
                      have d0 := (hq.cell (p := ⟨ge, x, none⟩) HCE.out.2.2).trans HCE.out.1
                      go_simp
                    try simp only [Act.put, List.setIfInBounds_toArray, List.set_cons_zero, List.set_cons_succ]
                    refine takeD (i := 4) (v := .slice (some ⟨ge, 0, none⟩) 10 10) (some 96) rfl rfl (by kernel_rfl) (by kernel_rfl) (by kernel_rfl) (fun _ _ _ h => h) (Or.inl ⟨by rfl, ?_⟩) hS0 ?_
                    · rintro w' hq
                      go_simp
                    try simp only [Act.put, List.setIfInBounds_toArray, List.set_cons_zero, List.set_cons_succ]
                    refine takeD (i := 5) (v := .int .i64 y) (some 97) rfl rfl (by kernel_rfl) (by kernel_rfl) (by kernel_rfl) (fun _ _ _ h => h) (Or.inl ⟨by rfl, ?_⟩) hS0 ?_
                    · rintro w' hq
                      go_simp
                    try simp only [Act.put, List.setIfInBounds_toArray, List.set_cons_zero, List.set_cons_succ]
                    refine takeD (i := 6) (v := .pointer (some ⟨ge, y, none⟩)) (some 98) rfl rfl (by kernel_rfl) (by kernel_rfl) (by kernel_rfl) (fun _ _ _ h => h) (Or.inl ⟨by rfl, ?_⟩) hS0 ?_
                    · rintro w' hq
                      go_simp
                    try simp only [Act.put, List.setIfInBounds_toArray, List.set_cons_zero, List.set_cons_succ]
                    refine takeD (i := 7) (v := .int .i64 ey) (some 99) rfl rfl (by kernel_rfl) (by kernel_rfl) (by kernel_rfl) (fun _ _ _ h => h) (Or.inl ⟨by rfl, ?_⟩) hS0 ?_
                    · rintro w' hq
                      have d0 := (hq.cell (p := ⟨ge, y, none⟩) HCE.out.2.2).trans HCE.out.2.1
                      go_simp
                    try simp only [Act.put, List.setIfInBounds_toArray, List.set_cons_zero, List.set_cons_succ]
                    refine takeD (i := 8) (v := .slice A7 N c7) (some 100) rfl rfl (by kernel_rfl) (by kernel_rfl) (by kernel_rfl) (fun _ _ _ h => h) (Or.inl ⟨by rfl, ?_⟩) hS0 ?_
                    · rintro w' hq
                      go_simp
                    try simp only [Act.put, List.setIfInBounds_toArray, List.set_cons_zero, List.set_cons_succ]
                    refine wpAnyH_ready (rs := [9]) (by kernel_rfl) (by simp) ?_
                    refine AllReadyH.cons rfl (fun K hK => ?_) AllReadyH.nil
                    try rw [if_pos (by rfl)]
                    go_simp
                    refine (senderPlays_any ex ey ((HD.out.below hS0).wider hS0.size)).mono ?_
                    rintro e u1 ⟨rfl, hb1⟩
                    have hS1 := hS0.trans (hb1.mono hS0.size)
                    clear hb1
                    refine hK.out _ _ hS1 (fun _ => ?_)
                    clear hK K
                    try simp only [Act.put, List.setIfInBounds_toArray, List.set_cons_zero, List.set_cons_succ]
                    refine takeD (i := 10) (v := .bool false) (some 102) rfl rfl (by kernel_rfl) (by kernel_rfl) (by kernel_rfl) (fun _ _ _ h => h) (Or.inl ⟨by rfl, ?_⟩) hS1 ?_
                    · rintro w' hq
                      go_simp
                    try simp only [Act.put, List.setIfInBounds_toArray, List.set_cons_zero, List.set_cons_succ]
                    refine takeD (i := 11) (v := .bool false) (some 103) rfl rfl (by kernel_rfl) (by kernel_rfl) (by kernel_rfl) (fun _ _ _ h => h) (Or.inl ⟨by rfl, ?_⟩) hS1 ?_
                    · rintro w' hq
                      go_simp
                    try simp only [Act.put, List.setIfInBounds_toArray, List.set_cons_zero, List.set_cons_succ]
                    refine takeD (i := 12) (v := .int .i64 y) (some 104) rfl rfl (by kernel_rfl) (by kernel_rfl) (by kernel_rfl) (fun _ _ _ h => h) (Or.inl ⟨by rfl, ?_⟩) hS1 ?_
                    · rintro w' hq
                      go_simp
                    try simp only [Act.put, List.setIfInBounds_toArray, List.set_cons_zero, List.set_cons_succ]
                    refine takeD (i := 13) (v := .int .i64 r4) (some 105) rfl rfl (by kernel_rfl) (by kernel_rfl) (by kernel_rfl) (fun _ _ _ h => h) (Or.inl ⟨by rfl, ?_⟩) hS1 ?_
                    · rintro w' hq
                      go_simp
                    try simp only [Act.put, List.setIfInBounds_toArray, List.set_cons_zero, List.set_cons_succ]
                    refine takeD (i := 14) (v := .int .i64 a4) (some 106) rfl rfl (by kernel_rfl) (by kernel_rfl) (by kernel_rfl) (fun _ _ _ h => h) (Or.inl ⟨by rfl, ?_⟩) hS1 ?_
                    · rintro w' hq
                      go_simp
                    try simp only [Act.put, List.setIfInBounds_toArray, List.set_cons_zero, List.set_cons_succ]
                    refine takeD (i := 15) (v := .int .i64 y) (some 107) rfl rfl (by kernel_rfl) (by kernel_rfl) (by kernel_rfl) (fun _ _ _ h => h) (Or.inl ⟨by rfl, ?_⟩) hS1 ?_
                    · rintro w' hq
                      go_simp
                    try simp only [Act.put, List.setIfInBounds_toArray, List.set_cons_zero, List.set_cons_succ]
                    refine takeD (i := 16) (v := .int .i64 r6) (some 108) rfl rfl (by kernel_rfl) (by kernel_rfl) (by kernel_rfl) (fun _ _ _ h => h) (Or.inl ⟨by rfl, ?_⟩) hS1 ?_
                    · rintro w' hq
                      go_simp
                    try simp only [Act.put, List.setIfInBounds_toArray, List.set_cons_zero, List.set_cons_succ]
                    refine takeD (i := 17) (v := .int .i64 a6) (some 109) rfl rfl (by kernel_rfl) (by kernel_rfl) (by kernel_rfl) (fun _ _ _ h => h) (Or.inl ⟨by rfl, ?_⟩) hS1 ?_
                    · rintro w' hq
                      go_simp
                    try simp only [Act.put, List.setIfInBounds_toArray, List.set_cons_zero, List.set_cons_succ]
                    refine takeD (i := 18) (v := .slice A7 N c7) (some 110) rfl rfl (by kernel_rfl) (by kernel_rfl) (by kernel_rfl) (fun _ _ _ h => h) (Or.inl ⟨by rfl, ?_⟩) hS1 ?_
                    · rintro w' hq
                      go_simp
                    try simp only [Act.put, List.setIfInBounds_toArray, List.set_cons_zero, List.set_cons_succ]
                    refine wpAnyH_ready (rs := [19]) (by kernel_rfl) (by simp) ?_
                    refine AllReadyH.cons rfl (fun K hK => ?_) AllReadyH.nil
                    try rw [if_pos (by rfl)]
                    go_simp
                    refine (senderPlays_any a4 a6 ((HD.out.below hS1).wider hS1.size)).mono ?_
                    rintro e u2 ⟨rfl, hb2⟩
                    have hS2 := hS1.trans (hb2.mono hS1.size)
                    clear hb2
                    refine hK.out _ _ hS2 (fun _ => ?_)
                    clear hK K
                    try simp only [Act.put, List.setIfInBounds_toArray, List.set_cons_zero, List.set_cons_succ]
                    refine takeD (i := 20) (v := .bool false) (some 112) rfl rfl (by kernel_rfl) (by kernel_rfl) (by kernel_rfl) (fun _ _ _ h => h) (Or.inl ⟨by rfl, ?_⟩) hS2 ?_
                    · rintro w' hq
                      go_simp
                    try simp only [Act.put, List.setIfInBounds_toArray, List.set_cons_zero, List.set_cons_succ]
                    refine takeD (i := 21) (v := .bool false) (some 113) rfl rfl (by kernel_rfl) (by kernel_rfl) (by kernel_rfl) (fun _ _ _ h => h) (Or.inl ⟨by rfl, ?_⟩) hS2 ?_
                    · rintro w' hq
                      go_simp
                    try simp only [Act.put, List.setIfInBounds_toArray, List.set_cons_zero, List.set_cons_succ]
                    refine wpAnyH_done (by kernel_rfl) ?_ _
                    have HS2 := Kp.mk hS2
                    clear hS0 hS1 hS2 hr4 ha4 hr6 ha6
                    go_wp2_with fail
                    go_roundw
                    case rel => exact ⟨y + 1, by go_num, by have := HYY.out; omega, HS2.out⟩
                    case measure => have := HYY.out; simp [intOf]; omega
                  · have HB9 := Kp.mk hB
                    clear hB hy
                    go_wp2_with fail
                    go_roundw
                    case rel => exact ⟨x + 1, by go_num, by have := HXX.out; omega, HB9.out⟩
                    case measure => have := HXX.out; simp [intOf]; omega
              · have HB8 := Kp.mk hB
                clear hB hx
                go_wp2_with fail
                refine (sworks_any _).mono ?_
                rintro e w9 ⟨rfl, hb9⟩
                have HF := Kp.mk (show Below lo W w9 from by
                  have h1 := HB3.out.trans (HB7.out.mono (by rw [HB3E.out]; exact hlo3.out))
                  have h2 := h1.trans (HB8.out.mono (Nat.le_trans hlo3.out (by rw [← HB3E.out]; rw [HB3E.out]; exact HB7.out.size)))
                  exact h2.trans (hb9.mono (Nat.le_trans (Nat.le_trans hlo3.out HB7.out.size) HB8.out.size)))
                clear hb9
                go_wp2_with fail
                go_ret
                exact ⟨rfl, HF.out⟩
theorem senderKnown_walk (W : World) : Calls Try.prog 6 #[] W fun e w' => e = .returned (.bool true) ∧ Below W.heap.size W w' := senderKnown_any W
end Go.Proofs.Ytkpjnikbcgngbaa.Oct
