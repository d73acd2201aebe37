/- Layer 14 (inbox): InboxOrder walked. -/
import Derived.Test.YtdhidgcjpeafnaaInbD
import Derived.Test.YtdhidgcjpeafnaaInbE
namespace Go.Proofs.Ytdhidgcjpeafnaa.Oct
open Go.RowKit
set_option linter.unusedVariables false
set_option linter.unusedSimpArgs false
set_option maxRecDepth 100000 in
set_option maxHeartbeats 8000000 in
theorem inboxOrder_any {W : World} {A0 : Option Addr} {n0 c0 : Nat} {zs : List Int} (a : Int) (h : Rd .i64 W W.heap.size A0 n0 c0 zs) : Calls Try.prog 4 #[.int .i64 a, .slice A0 n0 c0] W fun e w' => e = .returned (.bool true) ∧ Below W.heap.size W w' := by
  have hm := h.max
  have HR := Kp.mk h
  obtain ⟨lo, hlo⟩ : ∃ lo, lo = W.heap.size := ⟨_, rfl⟩
  rw [← hlo]
  have HLO := Kp.mk hlo
  clear hlo h
  have b1 := Ser.bringP_bd a 65536 (by omega)
  have hA := fun w => Ser.bring_any a 65536 w (by omega) (by omega)
  generalize Ser.bringP a 65536 = base at *
  have HB := Kp.mk b1
  go_enter Try.func4, Try.ntmps4
  go_wp2_with fail
  refine (iworks_any W).mono ?_
  rintro e w1 ⟨rfl, hb1⟩
  have HW1 := Kp.mk hb1
  clear hb1
  go_wp2_with (first | (refine (hA _).mono ?_; rintro e q ⟨rfl, hq1⟩; subst hq1))
  refine (xnew_yes_i w1 base (by omega) (by omega)).mono ?_
  rintro e w2 ⟨x, b, rfl, hx, hb, h1, hbl⟩
  have HX := Kp.mk (show lo ≤ x ∧ lo ≤ b by have := HW1.out.size; rw [HLO.out]; omega)
  have HW2 := Kp.mk (show Below lo W w2 by rw [HLO.out]; exact HW1.out.trans (hbl.mono HW1.out.size))
  have H1 := Kp.mk h1
  clear hx hb hbl h1 hA HW1
  have hV := Vb.new 45 w2 [.bool false, .bool false, .bool false, .bool false]
  have hb3 := below_alloc w2 (.cells #[.bool false, .bool false, .bool false, .bool false] 45)
  have hI3 := H1.out.below hb3
  have hB3 := HW2.out.trans (hb3.mono (by rw [HLO.out]; exact HW2.out.size))
  have HG := Kp.mk (show lo ≤ w2.heap.size by rw [HLO.out]; exact HW2.out.size)
  have HP0 := Kp.mk (show Ser.plusP base (0 : Nat) = base by unfold Ser.plusP; have := HB.out; omega)
  clear hb3
  go_wp2_with fail
  generalize hgw : w2.alloc (.cells #[.bool false, .bool false, .bool false, .bool false] 45) = w3 at *
  clear hgw
  change Vb _ w3 _ _ at hV
  generalize w2.heap.size = ga at *
  clear H1 HW2
  go_loopw [8, 10] (fun s8 s10 wr => ∃ (t i : Nat) (h1 h2 h3 : Bool), s8 = .int .i64 t ∧ s10 = .int .i64 i ∧ i ≤ n0 ∧ i ≤ 300 ∧ t ≤ 4 * i ∧ It4 wr x b base t (h1, h2, h3) ∧ Vb 45 wr ga [.bool false, .bool h1, .bool h2, .bool h3] ∧ Below lo W wr) (fun _ s10 _ => 300 - (intOf s10).toNat)
  case atStart =>
    refine ⟨0, 0, false, false, false, rfl, rfl, Nat.zero_le _, Nat.zero_le _, Nat.zero_le _, ?_, hV, hB3⟩
    unfold It4
    rw [HP0.out]
    exact hI3
  case round =>
    clear hV hI3 hB3
    obtain ⟨t, i, h1, h2, h3, rfl, rfl, hi1, hi2, ht, hI, hV, hB⟩ := hrel
    by_cases hl1 : (i : Int) < n0
    · by_cases hl2 : (i : Int) < 300
      · obtain ⟨bH, oH, eH, hbH, hcH⟩ := (HR.out.below (hB.mono (by rw [HLO.out]; exact Nat.le_refl _))).at_ (by omega)
        subst eH
        have d0 := hcH i (by omega)
        generalize zs.getD i 0 = zi at *
        have hz := Ser.bringP_bd zi 9 (by omega)
        have hbr := Ser.bring_any zi 9 wr (by omega) (by omega)
        generalize Ser.bringP zi 9 = z at *
        clear hcH
        have HI := Kp.mk hI
        have HV := Kp.mk hV
        have HBl := Kp.mk hB
        have HT := Kp.mk (And.intro ht (And.intro hi1 hi2))
        clear hI hV hB
        have ht2 : (t : Int) ≤ 1200 := by omega
        have HX2 := Kp.mk (show ga ≠ x ∧ ga ≠ b from ⟨vb_ne HV.out (show II wr x b _ _ _ _ from HI.out).own (by decide), fun e => (show II wr x b _ _ _ _ from HI.out).mp.nocell _ _ _ (e ▸ HV.out)⟩)
        have HGA := Kp.mk HV.out.lt
        have stay : ∀ w5 : World, Ch (fun k => k = x ∨ k = b) wr w5 → Vb 45 w5 ga [.bool false, .bool h1, .bool h2, .bool h3] := fun w5 hC5 => (hC5.block ga HV.out.lt (by
            rintro (e | e)
            · exact HX2.out.1 e
            · exact HX2.out.2 e)).trans HV.out
        have ST := Kp.mk stay
        clear stay
        have fin : ∃ g0 g1 g2 g3 : Bool, (3 ≤ z ∧ z < 7 → [false, h1, h2, h3].set (z - 3).toNat true = [g0, g1, g2, g3]) ∧ (¬ (3 ≤ z ∧ z < 7) → [false, h1, h2, h3] = [g0, g1, g2, g3]) := by
          by_cases hin : 3 ≤ z ∧ z < 7
          · obtain ⟨g0, g1, g2, g3, hgs⟩ := four_set h1 h2 h3 (z - 3).toNat (by omega)
            exact ⟨g0, g1, g2, g3, fun _ => hgs, fun h => absurd hin h⟩
          · exact ⟨_, _, _, _, fun h => absurd h hin, fun _ => rfl⟩
        obtain ⟨g0, g1, g2, g3, hg⟩ := fin
        have HGS := Kp.mk hg
        obtain ⟨N, hN⟩ : ∃ N, N = ld4 g0 g1 g2 g3 := ⟨_, rfl⟩
        obtain ⟨F, hF⟩ : ∃ F, F = lf4 g0 g1 g2 g3 := ⟨_, rfl⟩
        have HN := Kp.mk hN
        have HF := Kp.mk hF
        have HN4 := Kp.mk (show N ≤ 4 from hN ▸ ld4_le _ _ _ _)
        clear hg hN hF
        have hzc : (3 ≤ z ∧ z < 7) ∨ z < 3 ∨ 7 ≤ z := by omega
        rcases hzc with hzc | hzc | hzc
        · obtain ⟨j, rfl⟩ : ∃ j : Nat, z = (j : Int) + 3 := ⟨(z - 3).toNat, by omega⟩
          have hj : j < 4 := by omega
          have hset := HGS.out.1 hzc
          rw [show ((j : Int) + 3 - 3).toNat = j by omega] at hset
          have HSET := Kp.mk hset
          clear hset hzc HGS
          go_wp2_with (first | (refine hbr.mono ?_; rintro e q ⟨rfl, hq1⟩; subst hq1))
          clear hbr d0
          refine (xstep_in HI.out j hj _ _ rfl rfl HSET.out).mono ?_
          rintro e w5 ⟨A, c, rfl, hR5, hI5, hC5⟩
          have hV5 := ST.out w5 hC5
          have f0 := hV5.free j
          have e0 := hV5.cell j (u := .bool ([false, h1, h2, h3].getD j false)) (by
            have cases4 : j = 0 ∨ j = 1 ∨ j = 2 ∨ j = 3 := by omega
            rcases cases4 with rfl | rfl | rfl | rfl <;> rfl)
          have hV6 : Vb 45 (w5.setCell ⟨ga, j, none⟩ (.bool true)) ga [.bool g0, .bool g1, .bool g2, .bool g3] := by
            have y2 := congrArg (List.map Value.bool) HSET.out
            rw [List.map_set] at y2
            have y3 := hV5.set j (.bool true)
            rw [show ([.bool false, .bool h1, .bool h2, .bool h3] : List Value).set j (.bool true) = [.bool g0, .bool g1, .bool g2, .bool g3] from y2] at y3
            exact y3
          have hc6 : Ch (fun k => k = ga) w5 (w5.setCell ⟨ga, j, none⟩ (.bool true)) := .of_grown (grownBy_set w5 ga j _)
          have hj0 : (j : Int) < 4 := by omega
          rw [← HN.out, ← HF.out] at hI5
          rw [← HN.out] at hR5
          have HR6 := Kp.mk (hR5.stay hc6 (fun k hk e => by have := (hR5.lt k hk).1; have := HGA.out; omega))
          have HI6 := Kp.mk (hI5.stay hc6 (fun e => HX2.out.1 e.symm) (fun e => HX2.out.2 e.symm))
          have HB6 := Kp.mk ((HBl.out.trans (hC5.below (B := lo) (fun k e => by rcases e with rfl | rfl; exact HX.out.1; exact HX.out.2) (by have := HBl.out.size; have := HLO.out; omega))).trans (hc6.below (B := lo) (fun k e => by rw [e]; exact HG.out) (by have := HBl.out.size; have := hC5.size; have := HLO.out; omega)))
          have HV6 := Kp.mk hV6
          clear hR5 hI5 hC5 hV5 hV6 hc6
          rw [← HN.out]
          go_wp2_with fail
          generalize w5.setCell _ _ = w6 at *
          clear f0 e0
          clear HV HI HBl ST
          go_loopw [15] (fun s15 wq => ∃ (k : Nat) (e0 e1 e2 e3 : Bool), s15 = .int .i64 k ∧ ld4 e0 e1 e2 e3 + k = N ∧ lf4 e0 e1 e2 e3 = F ∧ Vb 45 wq ga [.bool e0, .bool e1, .bool e2, .bool e3] ∧ Ch (fun k => k = ga) w6 wq) (fun s15 _ => 5 - (intOf s15).toNat)
          case atStart => exact ⟨0, g0, g1, g2, g3, rfl, HN.out.symm, HF.out.symm, HV6.out, Ch.refl _ _⟩
          case round =>
            obtain ⟨k, e0, e1, e2, e3, rfl, hk, hf, hVq, hCq⟩ := hrel
            have q0 := hVq.cell 0 rfl
            have q1 := hVq.cell 1 rfl
            have q2 := hVq.cell 2 rfl
            have q3 := hVq.cell 3 rfl
            cases e0 with
            | true =>
              rw [ld4_step] at hk
              rw [lf4_step] at hf
              have HK := Kp.mk (And.intro hk hf)
              have HC := Kp.mk hCq
              have hk3 : (k : Int) < 4 := by have := HN4.out; omega
              clear hk hf hCq
              go_wp2_with (refine wpList_store_vb (vs := [.bool e1, .bool e2, .bool e3, .bool false]) rfl _ _ rfl rfl rfl hVq rfl agg_b4 rfl ?_; intro wp hvp hgp hzp; clear hVq q0 q1 q2 q3; have HVP := Kp.mk hvp; have HGP := Kp.mk hgp; clear hvp hgp hzp)
              go_roundw
              case rel => exact ⟨k + 1, e1, e2, e3, false, by go_num, by have := HK.out.1; omega, HK.out.2, HVP.out, HC.out.trans (Ch.of_grown HGP.out) (fun _ _ e => e)⟩
              case measure => simp [intOf]; omega
            | false =>
              obtain rfl : k = N := by simpa [ld4] using hk
              obtain rfl : (e1, e2, e3) = F := hf
              have hR7 := HR6.out.stay hCq (fun k hk e => by have := (HR6.out.lt k hk).1; have := HGA.out; omega)
              have HI7 := Kp.mk (HI6.out.stay hCq (fun e => HX2.out.1 e.symm) (fun e => HX2.out.2 e.symm))
              have HB7 := Kp.mk (HB6.out.trans (hCq.below (B := lo) (fun k e => by rw [e]; exact HG.out) (by have := HB6.out.size; have := HLO.out; omega)))
              have HVd := Kp.mk hR7.vd
              have HVq := Kp.mk hVq
              clear hk hR7 hCq hVq q1 q2 q3
              have hk4 : (k : Int) ≤ 4 := by have := HN4.out; omega
              go_wp2_with fail
              go_loop [16] (fun s16 => ∃ j : Nat, s16 = .int .i64 j ∧ j ≤ k) (fun s16 => 5 - (intOf s16).toNat)
              case atStart => exact ⟨0, rfl, Nat.zero_le _⟩
              case round =>
                clear q0
                obtain ⟨j, rfl, hj⟩ := hrel
                by_cases hlt : (j : Int) < k
                · obtain ⟨b3, o3, e3, _, hc3⟩ := HVd.out.at_ (by omega)
                  subst e3
                  have d3 := hc3 j _ (rngV_at t k j (by omega))
                  clear hc3
                  go_wp2_with fail
                  go_round
                  case rel => exact ⟨j + 1, by go_num, by omega⟩
                  case measure => simp [intOf]; omega
                · have hA := HI7.out.ack
                  rw [show Ser.plusP base ((t : Int) + (k : Nat)) = (base + ((t : Int) + (k : Nat))) % 65536 from rfl] at hA
                  go_wp2_with (first | (refine hA.mono ?_; rintro e q ⟨rfl, hq⟩; subst hq))
                  go_roundw
                  case rel => exact ⟨t + k, i + 1, e1, e2, e3, by go_num, by go_num, by omega, by omega, by have := HT.out; have := HN4.out; omega, by have := HI7.out; rw [show ((t : Int) + (k : Nat)) = ((t + k : Nat) : Int) by omega] at this; exact this, HVq.out, HB7.out⟩
                  case measure => simp [intOf]; omega
        · have HO := Kp.mk (HGS.out.2 (by omega))
          clear HGS
          go_wp2_with (first | (refine hbr.mono ?_; rintro e q ⟨rfl, hq1⟩; subst hq1))
          clear hbr d0
          refine (xstep_out2 HI.out (z - 3) (by omega) (by omega) _ _ rfl HO.out).mono ?_
          rintro e w6 ⟨A, c, rfl, hR5, hI5, hC5⟩
          have HV6 := Kp.mk (ST.out w6 hC5)
          rw [show ([.bool false, .bool h1, .bool h2, .bool h3] : List Value) = [.bool g0, .bool g1, .bool g2, .bool g3] from congrArg (List.map Value.bool) HO.out] at HV6
          rw [← HN.out, ← HF.out] at hI5
          rw [← HN.out] at hR5
          have HR6 := Kp.mk hR5
          have HI6 := Kp.mk hI5
          have HB6 := Kp.mk (HBl.out.trans (hC5.below (B := lo) (fun k e => by rcases e with rfl | rfl; exact HX.out.1; exact HX.out.2) (by have := HBl.out.size; have := HLO.out; omega)))
          clear hR5 hI5 hC5
          rw [← HN.out]
          go_wp2_with fail
          clear HV HI HBl ST
          go_loopw [15] (fun s15 wq => ∃ (k : Nat) (e0 e1 e2 e3 : Bool), s15 = .int .i64 k ∧ ld4 e0 e1 e2 e3 + k = N ∧ lf4 e0 e1 e2 e3 = F ∧ Vb 45 wq ga [.bool e0, .bool e1, .bool e2, .bool e3] ∧ Ch (fun k => k = ga) w6 wq) (fun s15 _ => 5 - (intOf s15).toNat)
          case atStart => exact ⟨0, g0, g1, g2, g3, rfl, HN.out.symm, HF.out.symm, HV6.out, Ch.refl _ _⟩
          case round =>
            obtain ⟨k, e0, e1, e2, e3, rfl, hk, hf, hVq, hCq⟩ := hrel
            have q0 := hVq.cell 0 rfl
            have q1 := hVq.cell 1 rfl
            have q2 := hVq.cell 2 rfl
            have q3 := hVq.cell 3 rfl
            cases e0 with
            | true =>
              rw [ld4_step] at hk
              rw [lf4_step] at hf
              have HK := Kp.mk (And.intro hk hf)
              have HC := Kp.mk hCq
              have hk3 : (k : Int) < 4 := by have := HN4.out; omega
              clear hk hf hCq
              go_wp2_with (refine wpList_store_vb (vs := [.bool e1, .bool e2, .bool e3, .bool false]) rfl _ _ rfl rfl rfl hVq rfl agg_b4 rfl ?_; intro wp hvp hgp hzp; clear hVq q0 q1 q2 q3; have HVP := Kp.mk hvp; have HGP := Kp.mk hgp; clear hvp hgp hzp)
              go_roundw
              case rel => exact ⟨k + 1, e1, e2, e3, false, by go_num, by have := HK.out.1; omega, HK.out.2, HVP.out, HC.out.trans (Ch.of_grown HGP.out) (fun _ _ e => e)⟩
              case measure => simp [intOf]; omega
            | false =>
              obtain rfl : k = N := by simpa [ld4] using hk
              obtain rfl : (e1, e2, e3) = F := hf
              have hR7 := HR6.out.stay hCq (fun k hk e => by have := (HR6.out.lt k hk).1; have := HGA.out; omega)
              have HI7 := Kp.mk (HI6.out.stay hCq (fun e => HX2.out.1 e.symm) (fun e => HX2.out.2 e.symm))
              have HB7 := Kp.mk (HB6.out.trans (hCq.below (B := lo) (fun k e => by rw [e]; exact HG.out) (by have := HB6.out.size; have := HLO.out; omega)))
              have HVd := Kp.mk hR7.vd
              have HVq := Kp.mk hVq
              clear hk hR7 hCq hVq q1 q2 q3
              have hk4 : (k : Int) ≤ 4 := by have := HN4.out; omega
              go_wp2_with fail
              go_loop [16] (fun s16 => ∃ j : Nat, s16 = .int .i64 j ∧ j ≤ k) (fun s16 => 5 - (intOf s16).toNat)
              case atStart => exact ⟨0, rfl, Nat.zero_le _⟩
              case round =>
                clear q0
                obtain ⟨j, rfl, hj⟩ := hrel
                by_cases hlt : (j : Int) < k
                · obtain ⟨b3, o3, e3, _, hc3⟩ := HVd.out.at_ (by omega)
                  subst e3
                  have d3 := hc3 j _ (rngV_at t k j (by omega))
                  clear hc3
                  go_wp2_with fail
                  go_round
                  case rel => exact ⟨j + 1, by go_num, by omega⟩
                  case measure => simp [intOf]; omega
                · have hA := HI7.out.ack
                  rw [show Ser.plusP base ((t : Int) + (k : Nat)) = (base + ((t : Int) + (k : Nat))) % 65536 from rfl] at hA
                  go_wp2_with (first | (refine hA.mono ?_; rintro e q ⟨rfl, hq⟩; subst hq))
                  go_roundw
                  case rel => exact ⟨t + k, i + 1, e1, e2, e3, by go_num, by go_num, by omega, by omega, by have := HT.out; have := HN4.out; omega, by have := HI7.out; rw [show ((t : Int) + (k : Nat)) = ((t + k : Nat) : Int) by omega] at this; exact this, HVq.out, HB7.out⟩
                  case measure => simp [intOf]; omega
        · have HO := Kp.mk (HGS.out.2 (by omega))
          clear HGS
          go_wp2_with (first | (refine hbr.mono ?_; rintro e q ⟨rfl, hq1⟩; subst hq1))
          clear hbr d0
          refine (xstep_out2 HI.out (z - 3) (by omega) (by omega) _ _ rfl HO.out).mono ?_
          rintro e w6 ⟨A, c, rfl, hR5, hI5, hC5⟩
          have HV6 := Kp.mk (ST.out w6 hC5)
          rw [show ([.bool false, .bool h1, .bool h2, .bool h3] : List Value) = [.bool g0, .bool g1, .bool g2, .bool g3] from congrArg (List.map Value.bool) HO.out] at HV6
          rw [← HN.out, ← HF.out] at hI5
          rw [← HN.out] at hR5
          have HR6 := Kp.mk hR5
          have HI6 := Kp.mk hI5
          have HB6 := Kp.mk (HBl.out.trans (hC5.below (B := lo) (fun k e => by rcases e with rfl | rfl; exact HX.out.1; exact HX.out.2) (by have := HBl.out.size; have := HLO.out; omega)))
          clear hR5 hI5 hC5
          rw [← HN.out]
          go_wp2_with fail
          clear HV HI HBl ST
          go_loopw [15] (fun s15 wq => ∃ (k : Nat) (e0 e1 e2 e3 : Bool), s15 = .int .i64 k ∧ ld4 e0 e1 e2 e3 + k = N ∧ lf4 e0 e1 e2 e3 = F ∧ Vb 45 wq ga [.bool e0, .bool e1, .bool e2, .bool e3] ∧ Ch (fun k => k = ga) w6 wq) (fun s15 _ => 5 - (intOf s15).toNat)
          case atStart => exact ⟨0, g0, g1, g2, g3, rfl, HN.out.symm, HF.out.symm, HV6.out, Ch.refl _ _⟩
          case round =>
            obtain ⟨k, e0, e1, e2, e3, rfl, hk, hf, hVq, hCq⟩ := hrel
            have q0 := hVq.cell 0 rfl
            have q1 := hVq.cell 1 rfl
            have q2 := hVq.cell 2 rfl
            have q3 := hVq.cell 3 rfl
            cases e0 with
            | true =>
              rw [ld4_step] at hk
              rw [lf4_step] at hf
              have HK := Kp.mk (And.intro hk hf)
              have HC := Kp.mk hCq
              have hk3 : (k : Int) < 4 := by have := HN4.out; omega
              clear hk hf hCq
              go_wp2_with (refine wpList_store_vb (vs := [.bool e1, .bool e2, .bool e3, .bool false]) rfl _ _ rfl rfl rfl hVq rfl agg_b4 rfl ?_; intro wp hvp hgp hzp; clear hVq q0 q1 q2 q3; have HVP := Kp.mk hvp; have HGP := Kp.mk hgp; clear hvp hgp hzp)
              go_roundw
              case rel => exact ⟨k + 1, e1, e2, e3, false, by go_num, by have := HK.out.1; omega, HK.out.2, HVP.out, HC.out.trans (Ch.of_grown HGP.out) (fun _ _ e => e)⟩
              case measure => simp [intOf]; omega
            | false =>
              obtain rfl : k = N := by simpa [ld4] using hk
              obtain rfl : (e1, e2, e3) = F := hf
              have hR7 := HR6.out.stay hCq (fun k hk e => by have := (HR6.out.lt k hk).1; have := HGA.out; omega)
              have HI7 := Kp.mk (HI6.out.stay hCq (fun e => HX2.out.1 e.symm) (fun e => HX2.out.2 e.symm))
              have HB7 := Kp.mk (HB6.out.trans (hCq.below (B := lo) (fun k e => by rw [e]; exact HG.out) (by have := HB6.out.size; have := HLO.out; omega)))
              have HVd := Kp.mk hR7.vd
              have HVq := Kp.mk hVq
              clear hk hR7 hCq hVq q1 q2 q3
              have hk4 : (k : Int) ≤ 4 := by have := HN4.out; omega
              go_wp2_with fail
              go_loop [16] (fun s16 => ∃ j : Nat, s16 = .int .i64 j ∧ j ≤ k) (fun s16 => 5 - (intOf s16).toNat)
              case atStart => exact ⟨0, rfl, Nat.zero_le _⟩
              case round =>
                clear q0
                obtain ⟨j, rfl, hj⟩ := hrel
                by_cases hlt : (j : Int) < k
                · obtain ⟨b3, o3, e3, _, hc3⟩ := HVd.out.at_ (by omega)
                  subst e3
                  have d3 := hc3 j _ (rngV_at t k j (by omega))
                  clear hc3
                  go_wp2_with fail
                  go_round
                  case rel => exact ⟨j + 1, by go_num, by omega⟩
                  case measure => simp [intOf]; omega
                · have hA := HI7.out.ack
                  rw [show Ser.plusP base ((t : Int) + (k : Nat)) = (base + ((t : Int) + (k : Nat))) % 65536 from rfl] at hA
                  go_wp2_with (first | (refine hA.mono ?_; rintro e q ⟨rfl, hq⟩; subst hq))
                  go_roundw
                  case rel => exact ⟨t + k, i + 1, e1, e2, e3, by go_num, by go_num, by omega, by omega, by have := HT.out; have := HN4.out; omega, by have := HI7.out; rw [show ((t : Int) + (k : Nat)) = ((t + k : Nat) : Int) by omega] at this; exact this, HVq.out, HB7.out⟩
                  case measure => simp [intOf]; omega
      · go_wp2_with fail
        go_ret
        exact ⟨rfl, hB⟩
    · have hl1' : decide ((i : Int) < n0) = false := by simpa using hl1
      go_wp2_with fail
      go_ret
      exact ⟨rfl, hB⟩
theorem inboxOrder_walk (r0 : Int) (A0 : Option Addr) (n0 c0 : Nat) (zs : List Int) (W : World) (wf : (Lit.int .i64 r0).wf = true) (hr : Frame.IsRow .i64 W A0 n0 c0 zs) (re : c0 * 8 ≤ 140737488351232) : Calls Try.prog 4 #[.int .i64 r0, .slice A0 n0 c0] W fun e w' => e = .returned (.bool true) ∧ Below W.heap.size W w' := inboxOrder_any r0 (Rd.of_row hr)
end Go.Proofs.Ytdhidgcjpeafnaa.Oct
