/- BeatWaits: asked at each tick, a beat is due after its first wait, then twice that, and so on, its longest one at most. -/
import Derived.Test.YtklbkpnbkpoomaaBeaD
import Derived.LoopTactic
import Derived.Deep.CutRange
namespace Go.Proofs.Ytklbkpnbkpoomaa.Oct
open Go.RowKit
set_option linter.unusedVariables false
set_option linter.unusedSimpArgs false
theorem tick_of {n : Int} (h0 : 0 ≤ n) (h1 : n ≤ 9007199254740991) : tickB n = true := decide_eq_true ⟨h0, h1⟩
/-- Between two ticks. -/
def WtR (W : World) (x : Nat) (f c g : Int) (s12 s13 s14 s15 : Value) (wr : World) : Prop := ∃ (t : Nat) (n a : Int), s12 = .int .i64 (wv f c t) ∧ s13 = .int .i64 a ∧ s14 = .int .i64 t ∧ s15 = .int .i64 n ∧ SB W wr x f c a t ∧ Kp ((t : Int) ≤ n - g ∧ n ≤ g + 600 ∧ n ≤ a ∧ 0 < a)
set_option maxRecDepth 100000 in
set_option maxHeartbeats 4000000 in
theorem beatWaits_walk (a0 b0 c0 : Int) (W : World) (wf : (Lit.int .i64 a0).wf = true) (wf2 : (Lit.int .i64 b0).wf = true) (wf3 : (Lit.int .i64 c0).wf = true) : Calls Try.prog 3 #[.int .i64 a0, .int .i64 b0, .int .i64 c0] W fun e w' => e = .returned (.bool true) ∧ Below W.heap.size W w' := by
  have b1 := Ser.bringP_bd a0 20 (by omega)
  have b2 := Ser.bringP_bd b0 100 (by omega)
  have b3 := Ser.bringP_bd c0 1099511627776 (by omega)
  have hA := fun w => Ser.bring_any a0 20 w (by omega) (by omega)
  have hB := fun w => Ser.bring_any b0 100 w (by omega) (by omega)
  have hC := fun w => Ser.bring_any c0 1099511627776 w (by omega) (by omega)
  have hW := works_any W
  generalize Ser.bringP a0 20 = p at *
  generalize Ser.bringP b0 100 = q at *
  generalize Ser.bringP c0 1099511627776 = g at *
  obtain ⟨f, hf⟩ : ∃ f, f = 1 + p := ⟨_, rfl⟩
  obtain ⟨c, hc⟩ : ∃ c, c = f + q := ⟨_, rfl⟩
  have e1 : wrap64 (1 + p) = f := by unfold wrap64; omega
  have e2 : wrap64 (f + q) = c := by unfold wrap64; omega
  have e3 : wrap64 (g + f) = g + f := by unfold wrap64; omega
  obtain ⟨lim, hlim⟩ : ∃ lim, lim = g + 600 := ⟨_, rfl⟩
  have e4 : wrap64 (g + 600) = lim := by unfold wrap64; omega
  have HL := Kp.mk hlim
  have HF := Kp.mk (show 1 ≤ f ∧ f ≤ 20 ∧ f ≤ c ∧ c ≤ 120 by omega)
  have HP := Kp.mk b3
  have hwb : waitsB f c = true := by unfold waitsB; exact decide_eq_true (by omega)
  have htk : tickB g = true := tick_of (by omega) (by omega)
  clear hf hc hlim
  clear wf wf2 wf3 b1 b2 b3
  go_enter Try.func3, Try.ntmps3
  go_wp2_with fail
  refine hW.mono ?_
  rintro e w1 ⟨rfl, hb1⟩
  have HB1 := Kp.mk hb1
  clear hb1 hW
  go_wp2_with fail
  refine (hA _).mono ?_
  rintro e w2 ⟨rfl, rfl⟩
  clear hA
  go_wp2_with fail
  refine (hB _).mono ?_
  rintro e w2 ⟨rfl, rfl⟩
  clear hB
  go_wp2_with fail
  refine (hC _).mono ?_
  rintro e w2 ⟨rfl, rfl⟩
  clear hC
  go_wp2_with fail
  refine (sb_new HB1.out f c hwb).mono ?_
  rintro e w2 ⟨rfl, h⟩
  have HX := Kp.mk HB1.out.size
  generalize w1.heap.size = x at *
  clear HB1 hwb
  go_wp2_with fail
  refine (h.start g htk (z := g + f) rfl).mono ?_
  rintro e w3 ⟨rfl, h3⟩
  have H3 := Kp.mk h3
  clear h h3 htk
  go_wp2_with fail
  go_loopw [12, 13, 14, 15] (fun s12 s13 s14 s15 wr => WtR W x f c g s12 s13 s14 s15 wr) (fun _ _ _ s15 _ => (lim + 1 - intOf s15).toNat)
  case atStart => exact ⟨0, g, g + f, rfl, by rw [e3], rfl, rfl, H3.out, Kp.mk ⟨by omega, by omega, by have := HF.out; omega, by have := HF.out; have := HP.out; omega⟩⟩
  case round =>
    clear H3 e1 e2 e3
    obtain ⟨t, n, a, rfl, rfl, rfl, rfl, hS, HK⟩ := hrel
    by_cases hend : n < lim
    · have hkk : wrap64 (n + 1) = n + 1 := by have := HP.out; have := HL.out; have := HK.out; unfold wrap64; omega
      have HKK := Kp.mk hkk
      have hti : wrap64 ((t : Int) + 1) = (t : Int) + 1 := by have := HP.out; have := HL.out; have := HK.out; unfold wrap64; omega
      have HN := Kp.mk (show n + 1 ≤ g + 600 ∧ g ≤ n from by have := HL.out; have := HK.out; omega)
      have htk2 : tickB n = true := tick_of (by have := HP.out; have := HK.out; omega) (by have := HP.out; have := HK.out; omega)
      by_cases hd : n = a
      · subst hd
        have hD := hS.due n HK.out.2.2.2 htk2 (Int.le_refl _) (by have := HK.out; omega) (z := n + wv f c (t + 1)) rfl (u := t + 1) rfl
        have HW := Kp.mk (show (if c < 2 * wv f c t then c else 2 * wv f c t) = wv f c (t + 1) by rw [wv_succ]; split <;> omega)
        have HB2 := Kp.mk (hS.bt.wv (t + 1))
        have hw2 : wrap64 (2 * wv f c t) = 2 * wv f c t := by have := hS.bt.wv t; unfold wrap64; omega
        have hw3 : wrap64 (n + wv f c (t + 1)) = n + wv f c (t + 1) := by have := HB2.out; have := HP.out; have := HK.out; unfold wrap64; omega
        clear hS htk2
        go_wp2_with fail
        refine hD.mono ?_
        rintro e w4 ⟨rfl, h4⟩
        have HT := Kp.mk (show ((t + 1 : Nat) : Int) = (t : Int) + 1 by omega)
        have HA := Kp.mk (show 0 < n + wv f c (t + 1) by have := HB2.out; have := HP.out; have := HK.out; omega)
        have HZ := Kp.mk (show ((t + 1 : Nat) : Int) ≤ n + 1 - g ∧ n + 1 ≤ g + 600 ∧ n + 1 ≤ n + wv f c (t + 1) ∧ 0 < n + wv f c (t + 1) by have := HB2.out; have := HP.out; have := HK.out; have := HN.out; omega)
        go_upto_region 18 with fail
        rw [hti]
        clear hti
        go_cut [12] from 47 to 85 (fun v wx => v = .int .i64 (wv f c (t + 1)) ∧ wx = w4)
        case first =>
          by_cases hm : c < 2 * wv f c t
          · go_wp2_with fail
            go_meet
            case rel => exact ⟨by rw [← HW.out, if_pos hm], rfl⟩
          · go_wp2_with fail
            go_meet
            case rel => exact ⟨by rw [← HW.out, if_neg (by omega)], rfl⟩
        case rest =>
          obtain ⟨rfl, rfl⟩ := hcut
          go_wp2_with fail
          refine (bat_any h4.bt).mono ?_
          rintro e w5 ⟨rfl, hw5⟩
          replace hw5 := hw5.symm
          subst hw5
          go_wp2_with fail
          refine (btries_any h4.bt).mono ?_
          rintro e w5 ⟨rfl, hw5⟩
          rw [HT.out]
          replace hw5 := hw5.symm
          subst hw5
          go_wp2_with fail
          refine (bruns_any h4.bt).mono ?_
          rintro e w5 ⟨rfl, hw5⟩
          replace hw5 := hw5.symm
          subst hw5
          rw [decide_eq_true HA.out]
          have H4 := Kp.mk h4
          clear h4
          go_wp2_with fail
          go_roundw
          case rel => exact ⟨t + 1, n + 1, n + wv f c (t + 1), rfl, rfl, by rw [HT.out], by rw [HKK.out], H4.out, HZ⟩
          case measure => have := HK.out; have := HL.out; simp [intOf]; omega
      · have hD := bdue_no hS.bt n (by have := HK.out; omega)
        have HA := Kp.mk HK.out.2.2.2
        have hna : (n == a) = false := by simpa using hd
        have HZ := Kp.mk (show (t : Int) ≤ n + 1 - g ∧ n + 1 ≤ g + 600 ∧ n + 1 ≤ a ∧ 0 < a by have := HK.out; have := HN.out; omega)
        have h4 := hS
        clear hS htk2 hd
        go_wp2_with fail
        refine hD.mono ?_
        rintro e w4 ⟨rfl, hw4⟩
        replace hw4 := hw4.symm
        subst hw4
        clear hD
        go_wp2_with fail
        refine (bat_any h4.bt).mono ?_
        rintro e w5 ⟨rfl, hw5⟩
        replace hw5 := hw5.symm
        subst hw5
        go_wp2_with fail
        refine (btries_any h4.bt).mono ?_
        rintro e w5 ⟨rfl, hw5⟩
        replace hw5 := hw5.symm
        subst hw5
        go_wp2_with fail
        refine (bruns_any h4.bt).mono ?_
        rintro e w5 ⟨rfl, hw5⟩
        replace hw5 := hw5.symm
        subst hw5
        rw [decide_eq_true HA.out]
        have H4 := Kp.mk h4
        clear h4
        go_wp2_with fail
        go_roundw
        case rel => exact ⟨t, n + 1, a, rfl, rfl, rfl, by rw [HKK.out], H4.out, HZ⟩
        case measure => have := HK.out; have := HL.out; simp [intOf]; omega
    · have HO := Kp.mk hS.old
      clear hS
      go_wp2_with fail
      go_ret
      exact ⟨rfl, HO.out⟩
end Go.Proofs.Ytklbkpnbkpoomaa.Oct
