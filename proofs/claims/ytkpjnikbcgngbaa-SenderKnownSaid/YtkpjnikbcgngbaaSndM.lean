/- Statements of layer 13 (sender): SenderPlays, the walk. -/
import Derived.Test.YtkpjnikbcgngbaaSndL
import Derived.Test.YtkpjnikbcgngbaaSndX
namespace Go.Proofs.Ytkpjnikbcgngbaa.Oct
open Go.RowKit
set_option linter.unusedVariables false
set_option linter.unusedSimpArgs false
theorem rd_fore {w : World} {B n c : Nat} {A : Option Addr} {l : List Int} (h : Rd .u8 w B A n c l) (m : Nat) (hm : m ≤ n) : Rd .u8 w B A m c (l.take m) := by
  refine ⟨by rw [List.length_take, h.len]; omega, Nat.le_trans hm h.le, h.cap, h.2.2.2.1, fun hn => ?_⟩
  obtain ⟨b, off, e, hlt, hc⟩ := h.at_ (by omega)
  refine ⟨b, off, e, hlt, fun j hj => ?_⟩
  rw [hc j (by omega)]
  congr 2
  rw [List.getD_eq_getElem?_getD, List.getD_eq_getElem?_getD, List.getElem?_take, if_pos hj]
set_option maxRecDepth 100000 in
set_option maxHeartbeats 16000000 in
theorem senderPlays_any {W : World} {A0 : Option Addr} {n0 c0 : Nat} {ds : List DoS} (a b : Int) (h : Ds W W.heap.size A0 n0 c0 ds) : Calls Try.prog 3 #[.int .i64 a, .int .i64 b, .slice A0 n0 c0] W fun e w' => e = .returned (.bool true) ∧ Below W.heap.size W w' := by
  have hm := h.max
  have HR := Kp.mk h
  obtain ⟨lo, hlo⟩ : ∃ lo, lo = W.heap.size := ⟨_, rfl⟩
  rw [← hlo]
  have HLO := Kp.mk hlo
  clear hlo h
  by_cases hok : (1 ≤ a ∧ a ≤ 4) ∧ 0 ≤ b ∧ b ≤ 65535
  rotate_left
  · go_enter Try.func3, Try.ntmps3
    go_wp2_with fail
    refine (snew_no _ a b hok).mono ?_
    rintro e w1 ⟨rfl, hw1⟩
    subst hw1
    go_wp2_with fail
    refine (mnewS_no _ a b hok).mono ?_
    rintro e w2 ⟨rfl, hw2⟩
    subst hw2
    go_wp2_with fail
    go_loopw [11] (fun s11 wr => s11 = .int .i64 0 ∧ Below lo w2 wr) (fun _ _ => 0)
    case atStart => exact ⟨rfl, Below.refl _ _⟩
    case round =>
      obtain ⟨rfl, hw⟩ := hrel
      by_cases hn0 : (0 : Int) < n0
      · go_wp2_with fail
        refine (sworks_any _).mono ?_
        rintro e w9 ⟨rfl, hb9⟩
        have HF := Kp.mk (hw.trans (hb9.mono (by have := hw.size; rw [HLO.out]; exact this)))
        clear hb9
        go_wp2_with fail
        go_ret
        exact ⟨rfl, HF.out⟩
      · obtain rfl : n0 = 0 := by omega
        go_wp2_with fail
        refine (sworks_any _).mono ?_
        rintro e w9 ⟨rfl, hb9⟩
        have HF := Kp.mk (hw.trans (hb9.mono (by have := hw.size; rw [HLO.out]; exact this)))
        clear hb9
        go_wp2_with fail
        go_ret
        exact ⟨rfl, HF.out⟩
  go_enter Try.func3, Try.ntmps3
  go_wp2_with fail
  refine (snew_yes Tq W a b hok.1 hok.2).mono ?_
  rintro e w1 ⟨s, c, rfl, hS, hs, hc, hb1⟩
  go_wp2_with fail
  refine (mnewS_yes Tq w1 a b hok.1 hok.2).mono ?_
  rintro e w2 ⟨m, rfl, hM, hml, hb2⟩
  have hP : PS Tq W lo w2 s c a.toNat m b 0 0 none none [] := by
    have k1 := hS.lt
    have hz1 := hb1.size
    have hz2 := hb2.size
    have hh := HLO.out
    refine ⟨hS.below hb2, hM, fun k e1 e2 => ?_, fun k e => ?_, fun k e => ?_, by rw [hh]; exact hb1.trans (hb2.mono hb1.size), by omega⟩
    · have := k1 k e1
      rcases e2 with e2 | e2 | e2
      · omega
      · omega
      · simp at e2
    · rcases e with e | e | e
      · omega
      · omega
      · simp at e
    · rcases e with e | e | e
      · omega
      · omega
      · simp at e
  have hP := Stp.of hP
  generalize a.toNat = wd at *
  clear hS hs hc hb1 hM hml hb2 hok
  go_wp2_with fail
  go_loopw [11] (fun s11 wr => ∃ i : Nat, s11 = .int .i64 i ∧ i ≤ n0 ∧ i ≤ 200 ∧ Stp W lo s c wd m wr) (fun s11 _ => 200 - (intOf s11).toNat)
  case atStart => exact ⟨0, rfl, by omega, by omega, hP⟩
  case round =>
    clear hP
    obtain ⟨i, rfl, hi1, hi2, hS⟩ := hrel
    obtain ⟨nx, said, all, r, rm, ms, hP⟩ := hS
    by_cases hgo : (i : Int) < n0 ∧ (i : Int) < 200
    · obtain ⟨j1, j2⟩ := hgo
      have HDP := Kp.mk (HR.out.below (by have := hP.bl; rw [HLO.out] at this; exact this))
      obtain ⟨bb, off, rfl, hbl, hcc⟩ := HDP.out.ex (by omega)
      obtain ⟨d, hd⟩ : ∃ d, ds[i]? = some d := ⟨_, List.getElem?_eq_getElem (show i < ds.length by have := HDP.out.len; omega)⟩
      obtain ⟨d0, d1, d2⟩ := hcc i d hd
      have HB := Kp.mk (HR.out.bytes d (List.mem_of_getElem? hd))
      have HJ := Kp.mk (And.intro j1 j2)
      clear hcc hd HDP
      go_upto_region 9 with fail
      have hb4 := below_alloc wr (.cells #[.int .i64 d.k, .int .i64 d.i, .slice d.A d.n d.c] 32)
      have hV : Vb 32 (wr.alloc (.cells #[.int .i64 d.k, .int .i64 d.i, .slice d.A d.n d.c] 32)) wr.heap.size [.int .i64 d.k, .int .i64 d.i, .slice d.A d.n d.c] := Vb.new 32 wr [.int .i64 d.k, .int .i64 d.i, .slice d.A d.n d.c]
      have hP4 := hP.below hb4
      have hkl := Kp.mk (show (∀ k, Kb s c r k → k < wr.heap.size) ∧ (∀ k, Kb m m rm k → k < wr.heap.size) from ⟨hP.sp.lt, hP.sm.lt⟩)
      obtain ⟨gx, hgx⟩ : ∃ gx, gx = wr.heap.size := ⟨_, rfl⟩
      rw [← hgx] at hV hkl ⊢
      have hgl := Kp.mk (show lo ≤ gx by rw [hgx]; exact hP.sz)
      clear hP hb4 hgx d0 d1 d2
      generalize wr.alloc (.cells #[.int .i64 d.k, .int .i64 d.i, .slice d.A d.n d.c] 32) = w5 at *
      obtain ⟨t, ht⟩ : ∃ t, t = min d.n 300 := ⟨_, rfl⟩
      have HT := Kp.mk (show t ≤ d.n ∧ t ≤ 300 by omega)
      have hmin : (if 300 < d.n then (300 : Int) else (d.n : Int)) = (t : Int) := by split <;> omega
      have hdc : (t : Int) ≤ d.c := by have := HB.out.1.le; omega
      have hdn := Kp.mk (show d.A = none → d.c = 0 from HB.out.1.2.2.2.1)
      have e2 := hV.cell 2 rfl
      have f2 := hV.free 2
      go_cut [12] from 35 to 86 (fun s12 wx => s12 = .pointer (some ⟨gx, 0, none⟩) ∧ wx = w5.setCell ⟨gx, 2, none⟩ (.slice d.A t d.c))
      case first =>
        rcases hA : d.A with _ | ⟨gb, ob, sp⟩
        · have hc0 := hdn.out hA
          have ht0 : t = 0 := by omega
          have hn0 : d.n = 0 := by have := HB.out.1.le; omega
          rw [hA, hc0, hn0] at e2
          have HA := Kp.mk (And.intro hA hc0)
          subst ht0
          clear hmin hdc hA hc0 hn0 ht
          go_wp2_with fail
          go_meet
          case rel => exact ⟨rfl, by rw [HA.out.1, HA.out.2]⟩
        · rw [hA] at e2
          have HA := Kp.mk hA
          clear hA ht
          by_cases h3 : (300 : Int) < d.n
          · obtain rfl : t = 300 := by split at hmin <;> omega
            clear hmin
            go_wp2_with fail
            go_meet
            case rel => exact ⟨rfl, by rw [HA.out]⟩
          · obtain rfl : t = d.n := by split at hmin <;> omega
            clear hmin
            go_wp2_with fail
            go_meet
            case rel => exact ⟨rfl, by rw [HA.out]⟩
      obtain ⟨rfl, hwc⟩ := hcut
      have hc6 : Ch (fun x => x = gx) w5 wc := by rw [hwc]; exact .of_grown (grownBy_set w5 gx 2 _)
      have hV6 : Vb 32 wc gx [.int .i64 d.k, .int .i64 d.i, .slice d.A t d.c] := by rw [hwc]; exact hV.set 2 _
      have hP6 := hP4.stay hc6 (fun k e1 e2 => by have := hkl.out.1 k e1; omega) (fun k e1 e2 => by have := hkl.out.2 k e1; omega) (fun b cs mk _ _ hb e => by rw [e] at hb; exact vb_no hV (by decide) cs mk hb) (fun k e => by rw [e]; exact hgl.out)
      clear e2 f2 hmin hdc hdn hV hc6 hwc hP4 hkl hgl ht
      have e0 := hV6.cell 0 rfl
      have e1 := hV6.cell 1 rfl
      have e2 := hV6.cell 2 rfl
      have hr6 := rd_fore (HB.out.1.below (by have := hP6.bl; rw [HLO.out] at this; exact this)) t HT.out.1
      rw [← HLO.out] at hr6
      have hst := step_any hP6 d.k d.i hr6 (HB.out.2.1.take t) HT.out.2
      clear hr6 hP6 hV6
      go_wp2_with fail
      refine hst.mono ?_
      rintro e w7 ⟨rfl, hS7⟩
      have HS7 := Kp.mk hS7
      obtain ⟨nx, said, all, r, rm, ms, hP7⟩ := hS7
      clear hst e0 e1 e2
      have l1 := sleft_any hP7.sp
      have l2 := mleftS_any hP7.sm
      have l3 := ssaid_any hP7.sp
      have l4 := msaidS_any hP7.sm
      have l5 := snext_any hP7.sp
      have l6 := mnextS_any hP7.sm
      clear hP7
      generalize ms.length = L at *
      go_wp2_with (first | (go_at_call 10; refine l1.mono ?_; rintro e q1 ⟨rfl, hq⟩; subst hq) | (go_at_call 11; refine l2.mono ?_; rintro e q1 ⟨rfl, hq⟩; subst hq) | (go_at_call 12; refine l3.mono ?_; rintro e q1 ⟨rfl, hq⟩; subst hq) | (go_at_call 13; refine l4.mono ?_; rintro e q1 ⟨rfl, hq⟩; subst hq) | (go_at_call 14; refine l5.mono ?_; rintro e q1 ⟨rfl, hq⟩; subst hq) | (go_at_call 15; refine l6.mono ?_; rintro e q1 ⟨rfl, hq⟩; subst hq))
      go_roundw
      case rel => exact ⟨i + 1, by go_num, by have := HJ.out; omega, by have := HJ.out; omega, HS7.out⟩
      case measure => have := HJ.out; simp [intOf]; omega
    · have hw := Kp.mk hP.bl
      have hz := Kp.mk hP.sz
      clear hP
      by_cases hn : (i : Int) < n0
      · have hg : ¬ (i : Int) < 200 := fun e => hgo ⟨hn, e⟩
        clear hgo
        go_wp2_with fail
        refine (sworks_any _).mono ?_
        rintro e w9 ⟨rfl, hb9⟩
        have HF := Kp.mk (hw.out.trans (hb9.mono hz.out))
        clear hb9
        go_wp2_with fail
        go_ret
        exact ⟨rfl, HF.out⟩
      · clear hgo
        go_wp2_with fail
        refine (sworks_any _).mono ?_
        rintro e w9 ⟨rfl, hb9⟩
        have HF := Kp.mk (hw.out.trans (hb9.mono hz.out))
        clear hb9
        go_wp2_with fail
        go_ret
        exact ⟨rfl, HF.out⟩
theorem senderPlays_walk (a b : Int) (ds : List DoS) (A0 : Option Addr) (n0 c0 : Nat) (W : World) (wf : (Lit.int .i64 a).wf = true) (wf2 : (Lit.int .i64 b).wf = true) (h : Ds W W.heap.size A0 n0 c0 ds) : Calls Try.prog 3 #[.int .i64 a, .int .i64 b, .slice A0 n0 c0] W fun e w' => e = .returned (.bool true) ∧ Below W.heap.size W w' := senderPlays_any a b h
end Go.Proofs.Ytkpjnikbcgngbaa.Oct
