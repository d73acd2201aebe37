/- BeatFew: in n ticks a beat is due no more often than n by its first wait, and one; started anew it waits as at first. -/
import Derived.Test.YtklbkpnbkpoomaaBeaD
import Derived.LoopTactic
import Derived.Deep.CutRange
namespace Go.Proofs.Ytklbkpnbkpoomaa.Oct
open Go.RowKit
set_option linter.unusedVariables false
set_option linter.unusedSimpArgs false
theorem tick_of2 {n : Int} (h0 : 0 ≤ n) (h1 : n ≤ 9007199254740991) : tickB n = true := decide_eq_true ⟨h0, h1⟩
/-- Between two calls. -/
def FwR (W : World) (x : Nat) (f c : Int) (n0 : Nat) (s10 s11 s12 : Value) (wr : World) : Prop := ∃ (t i : Nat) (n a : Int), s10 = .int .i64 n ∧ s11 = .int .i64 t ∧ s12 = .int .i64 i ∧ SB W wr x f c a t ∧ Kp (t ≤ i ∧ i ≤ n0 ∧ i ≤ 200 ∧ 0 ≤ n ∧ n ≤ 12 * i ∧ f * t ≤ n ∧ f * (t + 1) ≤ a)
theorem fwMul {f t : Int} : f * (t + 1) = f * t + f := by rw [Int.mul_add, Int.mul_one]
theorem fwDiv {f t n : Int} (hf : 1 ≤ f) (hn : 0 ≤ n) (h : f * t ≤ n) : t ≤ n.tdiv f := by
  rw [Int.tdiv_eq_ediv_of_nonneg hn]
  exact (Int.le_ediv_iff_mul_le (by omega)).2 (by rw [Int.mul_comm]; exact h)
set_option maxRecDepth 100000 in
set_option maxHeartbeats 4000000 in
theorem beatFew_any {W : World} {A0 : Option Addr} {n0 c0 : Nat} {zs : List Int} (a0 b0 : Int) (h : Rd .i64 W W.heap.size A0 n0 c0 zs) : Calls Try.prog 4 #[.int .i64 a0, .int .i64 b0, .slice A0 n0 c0] W fun e w' => e = .returned (.bool true) ∧ Below W.heap.size W w' := by
  have hm := h.max
  have HR := Kp.mk h
  clear h
  have b1 := Ser.bringP_bd a0 20 (by omega)
  have b2 := Ser.bringP_bd b0 100 (by omega)
  have hA := fun w => Ser.bring_any a0 20 w (by omega) (by omega)
  have hB := fun w => Ser.bring_any b0 100 w (by omega) (by omega)
  generalize Ser.bringP a0 20 = p at *
  generalize Ser.bringP b0 100 = q at *
  obtain ⟨f, hf⟩ : ∃ f, f = 1 + p := ⟨_, rfl⟩
  obtain ⟨c, hc⟩ : ∃ c, c = f + q := ⟨_, rfl⟩
  have e1 : wrap64 (1 + p) = f := by unfold wrap64; omega
  have e2 : wrap64 (f + q) = c := by unfold wrap64; omega
  have HF := Kp.mk (show 1 ≤ f ∧ f ≤ 20 ∧ f ≤ c ∧ c ≤ 120 by omega)
  have hwb : waitsB f c = true := by unfold waitsB; exact decide_eq_true (by omega)
  clear hf hc b1 b2
  go_enter Try.func4, Try.ntmps4
  go_wp2_with fail
  refine (hA _).mono ?_
  rintro e w2 ⟨rfl, rfl⟩
  clear hA
  go_wp2_with fail
  refine (hB _).mono ?_
  rintro e w2 ⟨rfl, rfl⟩
  clear hB
  go_wp2_with fail
  refine (sb_new (Below.refl _ W) f c hwb).mono ?_
  rintro e w2 ⟨rfl, h⟩
  have HX := Kp.mk (Nat.le_refl W.heap.size)
  obtain ⟨x, hx⟩ : ∃ x, x = W.heap.size := ⟨_, rfl⟩
  rw [← hx] at h
  rw [← hx]
  have HXE := Kp.mk hx
  clear hwb hx
  go_wp2_with fail
  refine (h.start 0 (by decide) (z := f) (by omega)).mono ?_
  rintro e w3 ⟨rfl, h3⟩
  have H3 := Kp.mk h3
  clear h h3 e1 e2
  go_wp2_with fail
  go_loopw [10, 11, 12] (fun s10 s11 s12 wr => FwR W x f c n0 s10 s11 s12 wr) (fun _ _ s12 _ => (201 - intOf s12).toNat)
  case atStart => exact ⟨0, 0, 0, f, rfl, rfl, rfl, H3.out, Kp.mk ⟨by omega, by omega, by omega, by omega, by omega, by simp, by simp⟩⟩
  case round =>
    clear H3
    obtain ⟨t, i, n, a, rfl, rfl, rfl, hS, HK⟩ := hrel
    by_cases hl1 : (i : Int) < n0
    · by_cases hl2 : (i : Int) < 200
      · obtain ⟨bH, oH, eH, hbH, hcH⟩ := (HR.out.below hS.old).at_ (by omega)
        subst eH
        have d0 := hcH i (by omega)
        generalize zs.getD i 0 = zi at *
        have hz := Ser.bringP_bd zi 12 (by omega)
        have hbr := Ser.bring_any zi 12 wr (by omega) (by omega)
        generalize Ser.bringP zi 12 = z at *
        have e3 : wrap64 (n + z) = n + z := by have := HK.out; unfold wrap64; omega
        have e4 : wrap64 ((i : Int) + 1) = (i : Int) + 1 := by unfold wrap64; omega
        have e5 : wrap64 ((t : Int) + 1) = (t : Int) + 1 := by have := HK.out; unfold wrap64; omega
        have HE5 := Kp.mk e5
        have HZ := Kp.mk hz
        have HI := Kp.mk (show i + 1 ≤ n0 ∧ i + 1 ≤ 200 ∧ ((i + 1 : Nat) : Int) = (i : Int) + 1 by omega)
        have htk : tickB (n + z) = true := tick_of2 (by have := HK.out; omega) (by have := HK.out; omega)
        clear hcH hbH hz
        go_wp2_with fail
        refine hbr.mono ?_
        rintro e w4 ⟨rfl, hw4⟩
        subst hw4
        clear hbr
        go_wp2_with fail
        have hpos : 0 < a := by
          have h1 := HK.out.2.2.2.2.2.2
          have h2 : 0 ≤ f * (t : Int) := Int.mul_nonneg (by have := HF.out; omega) (by omega)
          rw [fwMul] at h1
          have := HF.out
          omega
        by_cases hd : a ≤ n + z
        · refine (hS.due (n + z) hpos htk hd (by have := HK.out; omega) (z := n + z + wv f c (t + 1)) rfl (u := t + 1) rfl).mono ?_
          rintro e w5 ⟨rfl, h5⟩
          have hw := wv_pos (by have := HF.out; omega) (by have := HF.out; omega) (t + 1) (f := f) (c := c)
          have HN := Kp.mk (show t + 1 ≤ i + 1 ∧ i + 1 ≤ n0 ∧ i + 1 ≤ 200 ∧ 0 ≤ n + z ∧ n + z ≤ 12 * ((i + 1 : Nat) : Int) ∧ f * ((t + 1 : Nat) : Int) ≤ n + z ∧ f * (((t + 1 : Nat) : Int) + 1) ≤ n + z + wv f c (t + 1) by
            have h1 := HK.out
            have h2 := HI.out
            have h3 := HZ.out
            rw [fwMul, show ((t + 1 : Nat) : Int) = (t : Int) + 1 by omega]
            refine ⟨by omega, h2.1, h2.2.1, by omega, by omega, by omega, by omega⟩)
          have H5 := Kp.mk h5
          have HT := Kp.mk (show ((t + 1 : Nat) : Int) = (t : Int) + 1 by omega)
          clear h5 hS hd hpos hw htk d0
          go_wp2_with fail
          go_roundw
          case rel => exact ⟨t + 1, i + 1, n + z, n + z + wv f c (t + 1), rfl, by rw [HT.out, HE5.out], by rw [HI.out.2.2], H5.out, HN⟩
          case measure => have := HI.out; simp [intOf]; omega
        · refine (bdue_no hS.bt (n + z) (by omega)).mono ?_
          rintro e w5 ⟨rfl, hw5⟩
          subst hw5
          have HN := Kp.mk (show t ≤ i + 1 ∧ i + 1 ≤ n0 ∧ i + 1 ≤ 200 ∧ 0 ≤ n + z ∧ n + z ≤ 12 * ((i + 1 : Nat) : Int) ∧ f * (t : Int) ≤ n + z ∧ f * ((t : Int) + 1) ≤ a by
            have h1 := HK.out
            have h2 := HI.out
            have h3 := HZ.out
            refine ⟨by omega, h2.1, h2.2.1, by omega, by omega, by omega, h1.2.2.2.2.2.2⟩)
          have H5 := Kp.mk hS
          clear hS hd hpos htk d0
          go_wp2_with fail
          go_roundw
          case rel => exact ⟨t, i + 1, n + z, a, rfl, rfl, by rw [HI.out.2.2], H5.out, HN⟩
          case measure => have := HI.out; simp [intOf]; omega
      · have H5 := Kp.mk hS
        have HQ := Kp.mk (fwDiv (by have := HF.out; omega) HK.out.2.2.2.1 HK.out.2.2.2.2.2.1)
        have hq0 : 0 ≤ n.tdiv f := Int.le_trans (by omega) HQ.out
        have hq1 : n.tdiv f ≤ 2400 := by
          rw [Int.tdiv_eq_ediv_of_nonneg HK.out.2.2.2.1]
          exact Int.le_trans (Int.ediv_le_self _ HK.out.2.2.2.1) (by have := HK.out; omega)
        have hf0 : ¬ f = 0 := by have := HF.out; omega
        have ew : wrap64 (n.tdiv f) = n.tdiv f := by unfold wrap64; omega
        have ew1 : wrap64 (n.tdiv f + 1) = n.tdiv f + 1 := by unfold wrap64; omega
        have el : ¬ (n.tdiv f + 1 < (t : Int)) := by have := HQ.out; omega
        have en : wrap64 (n + f) = n + f := by have := HK.out; have := HF.out; unfold wrap64; omega
        have htk : tickB n = true := tick_of2 HK.out.2.2.2.1 (by have := HK.out; omega)
        have hN := fun w' (h : SB W w' x f c a t) => h.start n htk (z := n + f) rfl
        clear hS hq0 hq1 htk
        go_wp2_with fail
        refine (btries_any H5.out.bt).mono ?_
        rintro e w5 ⟨rfl, hw5⟩
        replace hw5 := hw5.symm
        subst hw5
        go_wp2_with fail
        refine (hN _ H5.out).mono ?_
        rintro e w6 ⟨rfl, h6⟩
        clear hN
        go_wp2_with fail
        refine (bat_any h6.bt).mono ?_
        rintro e w7 ⟨rfl, hw7⟩
        replace hw7 := hw7.symm
        subst hw7
        go_wp2_with fail
        refine (btries_any h6.bt).mono ?_
        rintro e w7 ⟨rfl, hw7⟩
        replace hw7 := hw7.symm
        subst hw7
        go_wp2_with fail
        refine (works_any _).mono ?_
        rintro e w8 ⟨rfl, hb8⟩
        have HO := Kp.mk (h6.below hb8).old
        clear h6 hb8
        go_wp2_with fail
        go_ret
        exact ⟨rfl, HO.out⟩
    · have H5 := Kp.mk hS
      have HQ := Kp.mk (fwDiv (by have := HF.out; omega) HK.out.2.2.2.1 HK.out.2.2.2.2.2.1)
      have hq0 : 0 ≤ n.tdiv f := Int.le_trans (by omega) HQ.out
      have hq1 : n.tdiv f ≤ 2400 := by
        rw [Int.tdiv_eq_ediv_of_nonneg HK.out.2.2.2.1]
        exact Int.le_trans (Int.ediv_le_self _ HK.out.2.2.2.1) (by have := HK.out; omega)
      have hf0 : ¬ f = 0 := by have := HF.out; omega
      have ew : wrap64 (n.tdiv f) = n.tdiv f := by unfold wrap64; omega
      have ew1 : wrap64 (n.tdiv f + 1) = n.tdiv f + 1 := by unfold wrap64; omega
      have el : ¬ (n.tdiv f + 1 < (t : Int)) := by have := HQ.out; omega
      have en : wrap64 (n + f) = n + f := by have := HK.out; have := HF.out; unfold wrap64; omega
      have htk : tickB n = true := tick_of2 HK.out.2.2.2.1 (by have := HK.out; omega)
      have hN := fun w' (h : SB W w' x f c a t) => h.start n htk (z := n + f) rfl
      clear hS hq0 hq1 htk
      go_wp2_with fail
      refine (btries_any H5.out.bt).mono ?_
      rintro e w5 ⟨rfl, hw5⟩
      replace hw5 := hw5.symm
      subst hw5
      go_wp2_with fail
      refine (hN _ H5.out).mono ?_
      rintro e w6 ⟨rfl, h6⟩
      clear hN
      go_wp2_with fail
      refine (bat_any h6.bt).mono ?_
      rintro e w7 ⟨rfl, hw7⟩
      replace hw7 := hw7.symm
      subst hw7
      go_wp2_with fail
      refine (btries_any h6.bt).mono ?_
      rintro e w7 ⟨rfl, hw7⟩
      replace hw7 := hw7.symm
      subst hw7
      go_wp2_with fail
      refine (works_any _).mono ?_
      rintro e w8 ⟨rfl, hb8⟩
      have HO := Kp.mk (h6.below hb8).old
      clear h6 hb8
      go_wp2_with fail
      go_ret
      exact ⟨rfl, HO.out⟩
theorem beatFew_walk (a b : Int) (A0 : Option Addr) (n0 c0 : Nat) (zs : List Int) (W : World) (wf : (Lit.int .i64 a).wf = true) (wf2 : (Lit.int .i64 b).wf = true) (hr : Frame.IsRow .i64 W A0 n0 c0 zs) (re : c0 * 8 ≤ 140737488351232) : Calls Try.prog 4 #[.int .i64 a, .int .i64 b, .slice A0 n0 c0] W fun e w' => e = .returned (.bool true) ∧ Below W.heap.size W w' := beatFew_any a b (Rd.of_row hr)
end Go.Proofs.Ytklbkpnbkpoomaa.Oct
