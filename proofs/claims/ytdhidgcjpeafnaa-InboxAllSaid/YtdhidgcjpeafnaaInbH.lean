/- Layer 14 (inbox): InboxAll walked. -/
import Derived.Test.YtdhidgcjpeafnaaInbD
import Derived.Test.YtdhidgcjpeafnaaInbE
namespace Go.Proofs.Ytdhidgcjpeafnaa.Oct
open Go.RowKit
set_option linter.unusedVariables false
set_option linter.unusedSimpArgs false
/-! Plain: what is left of four. -/
def leftL (c0 c1 c2 c3 : Bool) : List Int := (if c0 then [] else [0]) ++ (if c1 then [] else [1]) ++ (if c2 then [] else [2]) ++ (if c3 then [] else [3])
theorem left_len (c0 c1 c2 c3 : Bool) : (leftL c0 c1 c2 c3).length ≤ 4 := by cases c0 <;> cases c1 <;> cases c2 <;> cases c3 <;> decide
theorem left_nil {c0 c1 c2 c3 : Bool} (h : (leftL c0 c1 c2 c3).length = 0) : c0 = true ∧ c1 = true ∧ c2 = true ∧ c3 = true := by cases c0 <;> cases c1 <;> cases c2 <;> cases c3 <;> simp_all [leftL]
def orB (c : Bool) (v i : Int) : Bool := c || decide (v = i)
theorem left_step : ∀ (c0 c1 c2 c3 : Bool) (k : Fin 4), k.val < (leftL c0 c1 c2 c3).length →
    0 ≤ (leftL c0 c1 c2 c3).getD k.val 0 ∧ (leftL c0 c1 c2 c3).getD k.val 0 ≤ 3 ∧ (ld4 c0 c1 c2 c3 : Int) ≤ (leftL c0 c1 c2 c3).getD k.val 0 ∧
    (leftL c0 c1 c2 c3).take k.val ++ (leftL c0 c1 c2 c3).drop (k.val + 1) = leftL (orB c0 ((leftL c0 c1 c2 c3).getD k.val 0) 0) (orB c1 ((leftL c0 c1 c2 c3).getD k.val 0) 1) (orB c2 ((leftL c0 c1 c2 c3).getD k.val 0) 2) (orB c3 ((leftL c0 c1 c2 c3).getD k.val 0) 3) ∧
    ∃ g0 g1 g2 g3 : Bool, [false, (lf4 c0 c1 c2 c3).1, (lf4 c0 c1 c2 c3).2.1, (lf4 c0 c1 c2 c3).2.2].set ((leftL c0 c1 c2 c3).getD k.val 0 - (ld4 c0 c1 c2 c3 : Int)).toNat true = [g0, g1, g2, g3] ∧
      ld4 (orB c0 ((leftL c0 c1 c2 c3).getD k.val 0) 0) (orB c1 ((leftL c0 c1 c2 c3).getD k.val 0) 1) (orB c2 ((leftL c0 c1 c2 c3).getD k.val 0) 2) (orB c3 ((leftL c0 c1 c2 c3).getD k.val 0) 3) = ld4 c0 c1 c2 c3 + ld4 g0 g1 g2 g3 ∧
      lf4 (orB c0 ((leftL c0 c1 c2 c3).getD k.val 0) 0) (orB c1 ((leftL c0 c1 c2 c3).getD k.val 0) 1) (orB c2 ((leftL c0 c1 c2 c3).getD k.val 0) 2) (orB c3 ((leftL c0 c1 c2 c3).getD k.val 0) 3) = lf4 g0 g1 g2 g3 := by decide +kernel
/-- .. so that one can use it: the one at place k of those that are left comes. -/
theorem left_some {c0 c1 c2 c3 : Bool} {k : Nat} (hk : k < (leftL c0 c1 c2 c3).length) : ∃ (v : Int) (j : Nat) (e0 e1 e2 e3 g0 g1 g2 g3 : Bool), (leftL c0 c1 c2 c3)[k]? = some v ∧ 0 ≤ v ∧ v ≤ 3 ∧ j < 4 ∧ v = (ld4 c0 c1 c2 c3 : Int) + (j : Int) ∧
    (leftL c0 c1 c2 c3).take k ++ (leftL c0 c1 c2 c3).drop (k + 1) = leftL e0 e1 e2 e3 ∧ [false, (lf4 c0 c1 c2 c3).1, (lf4 c0 c1 c2 c3).2.1, (lf4 c0 c1 c2 c3).2.2].set j true = [g0, g1, g2, g3] ∧ ld4 e0 e1 e2 e3 = ld4 c0 c1 c2 c3 + ld4 g0 g1 g2 g3 ∧ lf4 e0 e1 e2 e3 = lf4 g0 g1 g2 g3 := by
  have h4 := left_len c0 c1 c2 c3
  obtain ⟨a1, a2, a3, a4, g0, g1, g2, g3, a5, a6, a7⟩ := left_step c0 c1 c2 c3 ⟨k, by omega⟩ hk
  exact ⟨_, _, _, _, _, _, g0, g1, g2, g3, by rw [List.getD_eq_getElem?_getD, List.getElem?_eq_getElem hk]; rfl, a1, a2, by dsimp only at a2 a3 ⊢; omega, by dsimp only at a3 ⊢; omega, a4, a5, a6, a7⟩
section
variable {w : World} {B n c : Nat} {A : Option Addr} {xs : List Value}
theorem Vd.fore (h : Vd w B A n c xs) (m : Nat) (hm : m ≤ n) : Vd w B A m c (xs.take m) :=
  ⟨by rw [List.length_take, h.len]; omega, Nat.le_trans hm h.2.1, h.2.2.1, h.2.2.2.1, fun hn => by
    obtain ⟨b, off, e, hlt, hc⟩ := h.at_ (by omega)
    refine ⟨b, off, e, hlt, fun j f hj => hc j f ?_⟩
    rw [List.getElem?_take] at hj
    split at hj
    · exact hj
    · simp at hj⟩
theorem Vd.behind {b off : Nat} (h : Vd w B (some ⟨b, off, none⟩) n c xs) (m : Nat) (hm : m ≤ n) (o sc : Nat) (hs : m < c → o = off + m) (hsc : sc = c - m) : Vd w B (some ⟨b, o, none⟩) (n - m) sc (xs.drop m) :=
  ⟨by rw [List.length_drop, h.len], by have := h.le; omega, by have := h.2.2.1; omega, fun e => by simp at e, fun hn => by
    obtain ⟨b2, off2, e, hlt, hc⟩ := h.at_ (by omega)
    have e := Option.some.inj e
    injection e with e1 e2
    subst e1 e2
    refine ⟨b, o, rfl, hlt, fun j f hj => ?_⟩
    rw [List.getElem?_drop] at hj
    have := hc _ f hj
    rw [hs (by have := h.le; omega), Nat.add_assoc]
    exact this⟩
end
theorem run_sl_from (bL oL n c k : Nat) (h1 : k ≤ n) (h2 : n ≤ c) : ∃ o : Nat, (k < c → o = oL + k) ∧ ∀ w' : World, (Instr.slice 41 (.slice (some ⟨bL, oL, none⟩) n c) (some (.int .i64 (k : Int))) none none).run Try.prog w' = .ok (.slice (some ⟨bL, o, none⟩) (n - k) (c - k)) w' := by
  have hz : ∀ w' : World, (sizeOf (Try.prog.elem 41)).run Try.prog w' = .ok 1 w' := fun w' => by kernel_rfl
  have hk : ((k : Int)).toNat = k := by omega
  by_cases hkc : k = c
  · refine ⟨oL, fun h => by omega, fun w' => ?_⟩
    rw [run_slice_l (P := Try.prog) (w := w') 41 (some ⟨bL, oL, none⟩) n c (by kernel_rfl) .i64 k (by omega) (by omega), hz]
    simp [sliced, hkc]
  · refine ⟨oL + k, fun _ => rfl, fun w' => ?_⟩
    rw [run_slice_l (P := Try.prog) (w := w') 41 (some ⟨bL, oL, none⟩) n c (by kernel_rfl) .i64 k (by omega) (by omega), hz]
    have hkc' : ¬ c = k := fun e => hkc e.symm
    simp [sliced, Result.andThen, hk, add_addr, hkc']
theorem map_int_one (l : List Int) : ∀ u ∈ l.map (Value.int .i64), u.oneCell' = true := by
  intro u hu
  obtain ⟨z, _, rfl⟩ := List.mem_map.1 hu
  rfl
theorem rng_one (t : Int) (n : Nat) : ∀ u ∈ rngV t n, u.oneCell' = true := by
  intro u hu
  obtain ⟨z, _, rfl⟩ := List.mem_map.1 hu
  rfl
/-- What holds while four come. -/
def AllR (W : World) (lo i x b : Nat) (base : Int) (s8 s10 s11 : Value) (wq : World) : Prop := ∃ (τ : Nat) (A8 : Option Addr) (t c8 : Nat) (A : Option Addr) (n c : Nat) (e0 e1 e2 e3 : Bool), s8 = .slice A8 t c8 ∧ s10 = .int .i64 τ ∧ s11 = .slice A n c ∧ τ ≤ 24 ∧ t = 4 * i + ld4 e0 e1 e2 e3 ∧ Vr 3 wq lo (.slice A8 t c8) t (rngV 0 t) ∧ Vr 3 wq lo (.slice A n c) n ((leftL e0 e1 e2 e3).map (Value.int .i64)) ∧ (∀ k, (Value.slice A8 t c8).ownBlock = some k → (Value.slice A n c).ownBlock ≠ some k) ∧ It4 wq x b base (t : Int) (lf4 e0 e1 e2 e3) ∧ Below lo W wq
set_option maxRecDepth 100000 in
set_option maxHeartbeats 8000000 in
theorem inboxAll_any {W : World} {A0 : Option Addr} {n0 c0 : Nat} {zs : List Int} (a : Int) (h : Rd .i64 W W.heap.size A0 n0 c0 zs) : Calls Try.prog 5 #[.int .i64 a, .slice A0 n0 c0] W fun e w' => e = .returned (.bool true) ∧ Below W.heap.size W w' := by
  have hm := h.max
  have HR := Kp.mk h
  obtain ⟨lo, hlo⟩ : ∃ lo, lo = W.heap.size := ⟨_, rfl⟩
  rw [← hlo]
  have HLO := Kp.mk hlo
  clear hlo h
  have b1 := Ser.bringP_bd a 65536 (by omega)
  have hA := Ser.bring_any a 65536 W (by omega) (by omega)
  generalize Ser.bringP a 65536 = base at *
  have HB := Kp.mk b1
  go_enter Try.func5, Try.ntmps5
  go_wp2_with (refine hA.mono ?_; rintro e q ⟨rfl, hq1⟩; subst hq1)
  refine (xnew_yes_i W base (by omega) (by omega)).mono ?_
  rintro e w2 ⟨x, b, rfl, hx, hb, h1, hbl⟩
  have HX := Kp.mk (show lo ≤ x ∧ lo ≤ b by rw [HLO.out]; exact ⟨hx, hb⟩)
  have HW2 := Kp.mk (show Below lo W w2 by rw [HLO.out]; exact hbl)
  have H1 := Kp.mk (show It4 w2 x b base (0 : Nat) (false, false, false) by
    unfold It4
    rw [show Ser.plusP base (0 : Nat) = base by unfold Ser.plusP; have := HB.out; omega]
    exact h1)
  clear hx hb hbl h1 hA
  go_wp2_with fail
  go_loopw [8, 9] (fun s8 s9 wr => ∃ (i c8 : Nat) (A8 : Option Addr), s8 = .slice A8 (4 * i) c8 ∧ s9 = .int .i64 i ∧ i ≤ 25 ∧ Vr 3 wr lo (.slice A8 (4 * i) c8) (4 * i) (rngV 0 (4 * i)) ∧ It4 wr x b base (4 * i : Nat) (false, false, false) ∧ Below lo W wr) (fun _ s9 _ => 25 - (intOf s9).toNat)
  case atStart => exact ⟨0, 0, none, rfl, rfl, Nat.zero_le _, Vr.nil0 _ _ _, H1.out, HW2.out⟩
  case round =>
    clear H1 HW2
    obtain ⟨i, c8, A8, rfl, rfl, hi, hR, hI, hB⟩ := hrel
    by_cases hl1 : (i : Int) < 25
    · skip
      have HI0 := Kp.mk hI
      have HRr := Kp.mk hR
      have HB0 := Kp.mk hB
      have HLZ := Kp.mk (show lo ≤ wr.heap.size from by have := hB.size; have := HLO.out; omega)
      have tail : ∀ (τ : Nat), τ ≤ 24 → True := fun _ _ => trivial
      clear tail hR hI hB
      by_cases hn : (0 : Int) < n0
      · obtain ⟨bH, oH, eH, hbH, hcH⟩ := (HR.out.below (HB0.out.mono (by rw [HLO.out]; exact Nat.le_refl _))).at_ (by omega)
        subst eH
        have d0 := hcH (i % n0) (Nat.mod_lt _ (by omega))
        generalize zs.getD (i % n0) 0 = zi at *
        have hz := Ser.bringP_bd zi 24 (by omega)
        have hbr := Ser.bring_any zi 24 wr (by omega) (by omega)
        generalize Ser.bringP zi 24 = z at *
        obtain ⟨u, rfl⟩ : ∃ u : Nat, z = u := ⟨z.toNat, by omega⟩
        clear hcH
        have hi1 := Int.emod_nonneg (i : Int) (show (n0 : Int) ≠ 0 by omega)
        have hi2 := Int.emod_lt_of_pos (i : Int) hn
        go_upto_region 12 with (refine hbr.mono ?_; rintro e q ⟨rfl, hq1⟩; subst hq1)
        clear hbr d0
        have hV1 : Vr 3 (wr.alloc (.cells #[.int .i64 0, .int .i64 1, .int .i64 2, .int .i64 3] 3)) wr.heap.size (.slice (some ⟨wr.heap.size, 0, none⟩) 4 4) 4 ((leftL false false false false).map (Value.int .i64)) := vr_lit 3 wr [.int .i64 0, .int .i64 1, .int .i64 2, .int .i64 3] (Nat.le_refl _) (by simp)
        have hb1 := below_alloc wr (.cells #[.int .i64 0, .int .i64 1, .int .i64 2, .int .i64 3] 3)
        have hI1 := HI0.out.below hb1
        have hR1 := HRr.out.below hb1
        have HB1 := Kp.mk (HB0.out.trans (hb1.mono HLZ.out))
        have hap : ∀ k, (Value.slice A8 (4 * i) c8).ownBlock = some k → (Value.slice (some (⟨wr.heap.size, 0, none⟩ : Addr)) 4 4).ownBlock ≠ some k := fun k hk e => by
          have h1 := (HRr.out.lt k hk).2
          simp [Value.ownBlock] at e
          omega
        have HV1 := Kp.mk (hV1.lower HLZ.out)
        have HI1 := Kp.mk hI1
        have HR1 := Kp.mk hR1
        have HAP := Kp.mk hap
        clear hV1 hb1 hI1 hR1 hap
        go_wp2_with fail
        generalize hgw : wr.alloc (.cells #[.int .i64 0, .int .i64 1, .int .i64 2, .int .i64 3] 3) = w3 at *
        clear hgw
        go_loopw [8, 10, 11] (fun s8 s10 s11 wq => AllR W lo i x b base s8 s10 s11 wq) (fun _ _ s11 _ => slN s11)
        case atStart => exact ⟨_, A8, 4 * i, c8, some ⟨wr.heap.size, 0, none⟩, 4, 4, false, false, false, false, rfl, rfl, rfl, by omega, rfl, HR1.out, HV1.out, HAP.out, HI1.out, HB1.out⟩
        case round =>
          clear HR1 HV1 HAP HI1 HB1
          obtain ⟨τ, A8, t, c8, A, n, c, e0, e1, e2, e3, rfl, rfl, rfl, hτ, ht, hR, hL, hap, hI, hB⟩ := hrel
          have hn4 : n ≤ 4 := by have := left_len e0 e1 e2 e3; have := hL.len; simp at this; omega
          have hln : (leftL e0 e1 e2 e3).length = n := by have := hL.len; simpa using this
          by_cases hl2 : (0 : Int) < n
          · have hn0 : 0 < n := by omega
            obtain ⟨k, hk⟩ : ∃ k, k = τ % n := ⟨_, rfl⟩
            have hkn : k < n := hk ▸ Nat.mod_lt _ hn0
            obtain ⟨τ2, hτ2⟩ : ∃ τ2, τ2 = τ / n := ⟨_, rfl⟩
            have hτ3 : τ2 ≤ 24 := by rw [hτ2]; exact Nat.le_trans (Nat.div_le_self _ _) hτ
            have HK := Kp.mk (show (τ : Int) % n = (k : Nat) by rw [hk]; rfl)
            have HT := Kp.mk (show wrap64 ((τ : Int) / n) = (τ2 : Nat) by rw [hτ2]; unfold wrap64; have h1 : ((τ / n : Nat) : Int) = (τ : Int) / n := rfl; rw [← h1]; omega)
            obtain ⟨v, j, f0, f1, f2, f3, g0, g1, g2, g3, y1, y2, y3, y4, y5, y6, y7, y8, y9⟩ := left_some (show k < (leftL e0 e1 e2 e3).length by omega)
            obtain ⟨bL, oL, eL, _, hcL⟩ := hL.vd.at_ hn0
            subst eL
            have dk := hcL k (.int .i64 v) (by rw [List.getElem?_map, y1]; rfl)
            have HY := Kp.mk (And.intro y4 (And.intro y5 (And.intro y6 (And.intro y7 (And.intro y8 y9)))))
            have HIi := Kp.mk hI
            have HR := Kp.mk hR
            have HL := Kp.mk hL
            have HAP := Kp.mk hap
            have HBq := Kp.mk hB
            have HTT := Kp.mk ht
            have ht99 : t ≤ 99 := by have := hI; have : (ld4 e0 e1 e2 e3 : Int) ≤ 3 := by omega
                                     omega
            clear hcL hL hR hI hB hap ht hk hτ2 y1 y4 y5 y6 y7 y8 y9
            go_upto_region 16 with fail
            rw [HK.out, HT.out]
            have hkn' : (k : Int) < n := by omega
            go_wp2_with fail
            refine (xstep_in HIi.out j HY.out.1 _ _ (by unfold Ser.plusP; have h1 := HTT.out; have h2 := HY.out.2.1; rw [show (4 * (i : Int) + v) = (t : Int) + (j : Nat) by omega]) (by have h1 := HTT.out; have h2 := HY.out.2.1; omega) HY.out.2.2.2.1).mono ?_
            rintro e w5 ⟨A', c', rfl, hR5, hI5, hC5⟩
            have hno := HIi.out.no_row HR.out
            have hnoL := HIi.out.no_row HL.out
            have hR6 := HR.out.stay hC5 hno
            have hL6 := HL.out.stay hC5 hnoL
            have hz5 : lo ≤ w5.heap.size := by have := HBq.out.size; have := hC5.size; have := HLO.out; omega
            have HB5 := Kp.mk (HBq.out.trans (hC5.below (B := lo) (fun k e => by rcases e with rfl | rfl; exact HX.out.1; exact HX.out.2) (by have := HBq.out.size; have := HLO.out; omega)))
            have hI5 : It4 w5 x b base ((t : Int) + (ld4 g0 g1 g2 g3 : Nat)) (lf4 g0 g1 g2 g3) := hI5
            obtain ⟨N, hN⟩ : ∃ N, N = ld4 g0 g1 g2 g3 := ⟨_, rfl⟩
            have hN4 : N ≤ 4 := hN ▸ ld4_le _ _ _ _
            rw [← hN] at hI5 hR5 ⊢
            have HN := Kp.mk hN
            clear hN
            have hno5 := hI5.no_row hR6
            have hnoL5 := hI5.no_row hL6
            obtain ⟨A9, c9, w6, hrun, hR7, hC6, hat⟩ := run_appendV Try.underlying41 info_iE rfl (by omega) 41 hR6 hR5.vd (rng_one _ _) (by omega) hz5
            have hL7 := hL6.stay hC6 (fun k hk e => HAP.out k e hk)
            have hI7 := hI5.stay hC6 (fun e => hno5 x e (Or.inl rfl)) (fun e => hno5 b e (Or.inr rfl))
            have HB7 := Kp.mk (HB5.out.trans (hC6.below (B := lo) (fun k e => (hR6.lt k e).1) hz5))
            have HLB := Kp.mk (show (∀ k, (Value.slice (some (⟨bL, oL, none⟩ : Addr)) n c).ownBlock = some k → k < w5.heap.size) from fun k hk => (hL6.lt k hk).2)
            have HA9 := Kp.mk hR7.lt
            rw [show rngV 0 t ++ rngV t N = rngV 0 (t + N) from by have := rngV_add 0 t N; rw [Int.zero_add] at this; exact this] at hR7
            have HR7 := Kp.mk hR7
            have HL7 := Kp.mk hL7
            have HI7 := Kp.mk hI7
            have HZ7 := Kp.mk (show lo ≤ w6.heap.size by have := hC6.size; omega)
            clear hno hnoL hR6 hL6 hR5 hI5 hC5 hno5 hnoL5 hR7 hL7 hI7 hC6 hat HR HL HIi HBq HB5 hz5
            go_upto_region 21 with (at_builtin; refine Lib.wpList_append_run _ rfl _ _ _ _ rfl _ _ rfl rfl _ _ hrun ?_)
            clear hrun
            have hkc : (k : Int) ≤ c := by have := HL7.out.vd.le; omega
            have hkc2 : k ≤ c := by omega
            have hw1 : IntKind.i64.wrap ((k : Int) + 1) = (k : Int) + 1 := by rw [IntKind.wrap_i64]; omega
            obtain ⟨oo, hoo, hslice⟩ := run_sl_from bL oL n c (k + 1) (by omega) (HL7.out.vd.le)
            rw [show ((k + 1 : Nat) : Int) = (k : Int) + 1 by omega] at hslice
            have HOO := Kp.mk hoo
            clear hoo
            refine wp_region_held_drew (S := fun X => Below w6.heap.size w6 X) (by kernel_rfl) ((Below.refl _ _).drew) (fun hS0 => ?_)
            change Below _ w6 w6.drew at hS0
            generalize w6.drew = u at *
            refine takeD (i := 1) (v := .slice (some ⟨bL, oL, none⟩) n c) (some 76) rfl rfl (by kernel_rfl) (by kernel_rfl) (by kernel_rfl) (fun _ _ _ h => h) (Or.inl ⟨by rfl, ?_⟩) hS0 ?_
            · rintro w' hq
              go_simp
            try simp only [Act.put, List.setIfInBounds_toArray, List.set_cons_zero, List.set_cons_succ]
            refine takeD (i := 2) (v := .int .i64 k) (some 77) rfl rfl (by kernel_rfl) (by kernel_rfl) (by kernel_rfl) (fun _ _ _ h => h) (Or.inl ⟨by rfl, ?_⟩) hS0 ?_
            · rintro w' hq
              go_simp
            try simp only [Act.put, List.setIfInBounds_toArray, List.set_cons_zero, List.set_cons_succ]
            refine takeD (i := 3) (v := .slice (some ⟨bL, oL, none⟩) k c) (some 78) rfl rfl (by kernel_rfl) (by kernel_rfl) (by kernel_rfl) (fun _ _ _ h => h) (Or.inl ⟨by rfl, ?_⟩) hS0 ?_
            · rintro w' hq
              go_simp
            try simp only [Act.put, List.setIfInBounds_toArray, List.set_cons_zero, List.set_cons_succ]
            refine takeD (i := 5) (v := .slice (some ⟨bL, oL, none⟩) n c) (some 80) rfl rfl (by kernel_rfl) (by kernel_rfl) (by kernel_rfl) (fun _ _ _ h => h) (Or.inl ⟨by rfl, ?_⟩) hS0 ?_
            · rintro w' hq
              go_simp
            try simp only [Act.put, List.setIfInBounds_toArray, List.set_cons_zero, List.set_cons_succ]
            refine takeD (i := 6) (v := .int .i64 k) (some 81) rfl rfl (by kernel_rfl) (by kernel_rfl) (by kernel_rfl) (fun _ _ _ h => h) (Or.inl ⟨by rfl, ?_⟩) hS0 ?_
            · rintro w' hq
              go_simp
            try simp only [Act.put, List.setIfInBounds_toArray, List.set_cons_zero, List.set_cons_succ]
            refine takeD (i := 7) (v := .int .i64 ((k : Int) + 1)) (some 82) rfl rfl (by kernel_rfl) (by kernel_rfl) (by kernel_rfl) (fun _ _ _ h => h) (Or.inl ⟨by rfl, ?_⟩) hS0 ?_
            · rintro w' hq
              go_simp
            try simp only [Act.put, List.setIfInBounds_toArray, List.set_cons_zero, List.set_cons_succ]
            refine takeD (i := 8) (v := .slice (some ⟨bL, oo, none⟩) (n - (k + 1)) (c - (k + 1))) (some 83) rfl rfl (by kernel_rfl) (by kernel_rfl) (by kernel_rfl) (fun _ _ _ h => h) (Or.inl ⟨by rfl, ?_⟩) hS0 ?_
            · rintro w' hq
              go_simp
            try simp only [Act.put, List.setIfInBounds_toArray, List.set_cons_zero, List.set_cons_succ]
            refine wpAnyH_ready (rs := [0]) (by kernel_rfl) (by simp) ?_
            refine AllReadyH.cons rfl (fun K hK => ?_) AllReadyH.nil
            try rw [if_pos (by rfl)]
            have hS1 : Below w6.heap.size w6 (u.alloc (.cells #[] 3)) := hS0.trans ((below_alloc u _).mono hS0.size)
            have hVe : Vr 3 (u.alloc (.cells #[] 3)) w6.heap.size (.slice (some ⟨u.heap.size, 0, none⟩) 0 0) 0 [] := (vr_lit 3 u [] (Nat.le_refl _) (by simp)).lower hS0.size
            go_simp
            refine hK.out _ _ hS1 (fun _ => ?_)
            clear hK K
            try simp only [Act.put, List.setIfInBounds_toArray, List.set_cons_zero, List.set_cons_succ]
            generalize u.alloc (.cells #[] 3) = u1 at *
            generalize u.heap.size = ge at *
            have hd1 := (HL7.out.below hS1).vd
            obtain ⟨A1, m1, u2, hr1, hV2, hC2, -⟩ := run_appendV Try.underlying41 info_iE rfl (by omega) 41 hVe (hd1.fore k (by omega)) (fun u hu => map_int_one _ u (List.mem_of_mem_take hu)) (by omega) hS1.size
            have hS2 : Below w6.heap.size w6 u2 := hS1.trans (hC2.below (B := w6.heap.size) (fun k hk => (hVe.lt k hk).1) hS1.size)
            have hr1 : (Builtin.append_ #[41, 41] 41 #[.slice (some ⟨ge, 0, none⟩) 0 0, .slice (some ⟨bL, oL, none⟩) k c]).run Try.prog u1 = .ok (.slice A1 k m1) u2 := by rw [Nat.zero_add] at hr1; exact hr1
            have hV2 : Vr 3 u2 w6.heap.size (.slice A1 k m1) k (((leftL e0 e1 e2 e3).map (Value.int .i64)).take k) := by rw [Nat.zero_add] at hV2; simpa using hV2
            clear hd1 hC2 hVe
            refine wpAnyH_ready (rs := [4]) (by kernel_rfl) (by simp) ?_
            refine AllReadyH.cons rfl (fun K hK => ?_) AllReadyH.nil
            try rw [if_pos (by rfl)]
            refine inbOp_append 79 rfl (.tmp 75) (.tmp 78) rfl rfl rfl hr1 (hK.out _ _ hS2 (fun _ => ?_))
            clear hK K hr1
            try simp only [Act.put, List.setIfInBounds_toArray, List.set_cons_zero, List.set_cons_succ]
            have hd2 := ((HL7.out.below hS2).vd.behind (k + 1) (by omega) oo (c - (k + 1)) HOO.out rfl)
            obtain ⟨A2, m2, u3, hr2, hV3, hC3, -⟩ := run_appendV Try.underlying41 info_iE rfl (by omega) 41 hV2 hd2 (fun u hu => map_int_one _ u (List.mem_of_mem_drop hu)) (by omega) hS2.size
            have hS3 : Below w6.heap.size w6 u3 := hS2.trans (hC3.below (B := w6.heap.size) (fun k hk => (hV2.lt k hk).1) hS2.size)
            have hkn2 : k + (n - (k + 1)) = n - 1 := by omega
            rw [hkn2] at hr2 hV3
            rw [← List.map_take, ← List.map_drop, ← List.map_append, HY.out.2.2.1] at hV3
            clear hd2 hC3 hV2
            refine wpAnyH_ready (rs := [9]) (by kernel_rfl) (by simp) ?_
            refine AllReadyH.cons rfl (fun K hK => ?_) AllReadyH.nil
            try rw [if_pos (by rfl)]
            refine inbOp_append 84 rfl (.tmp 79) (.tmp 83) rfl rfl rfl hr2 (hK.out _ _ hS3 (fun _ => ?_))
            clear hK K hr2
            try simp only [Act.put, List.setIfInBounds_toArray, List.set_cons_zero, List.set_cons_succ]
            refine takeD (i := 10) (v := .slice A2 (n - 1) m2) (some 11) rfl rfl (by kernel_rfl) (by kernel_rfl) (by kernel_rfl) (fun _ _ _ h => h) (Or.inl ⟨by rfl, ?_⟩) hS3 ?_
            · rintro w' hq
              go_simp
            try simp only [Act.put, List.setIfInBounds_toArray, List.set_cons_zero, List.set_cons_succ]
            refine wpAnyH_done (by kernel_rfl) ?_ _
            have HV3 := Kp.mk hV3
            have HS3 := Kp.mk hS3
            clear hV3 hS3 hS2 hS1 hS0 hslice
            go_wp2_with fail
            go_roundw
            case rel => exact ⟨τ2, A9, t + N, c9, A2, n - 1, m2, f0, f1, f2, f3, rfl, rfl, rfl, hτ3, by have h1 := HTT.out; have h2 := HN.out; have h3 := HY.out.2.2.2.2.1; omega, HR7.out.below HS3.out, HV3.out.lower HZ7.out, fun k hk e => by have h1 := (HA9.out k hk).2; have h2 := (HV3.out.lt k e).1; omega, by have h1 := HI7.out.below HS3.out; rw [HY.out.2.2.2.2.2]; rw [show ((t + N : Nat) : Int) = (t : Int) + (N : Nat) by omega]; exact h1, HB7.out.trans (HS3.out.mono HZ7.out)⟩
            case measure => show n - 1 < n; omega
          · have hnz : n = 0 := by omega
            obtain ⟨rfl, rfl, rfl, rfl⟩ := left_nil (show (leftL e0 e1 e2 e3).length = 0 by omega)
            have ht4 : t = 4 * (i + 1) := by rw [ht]; show 4 * i + 4 = _; omega
            subst ht4
            subst hnz
            have HRz := Kp.mk hR
            have HIz := Kp.mk hI
            have HBz := Kp.mk hB
            clear hR hL hI hB hap ht hln
            go_wp2_with fail
            go_roundw
            case rel => exact ⟨i + 1, c8, A8, rfl, by go_num, by omega, HRz.out, HIz.out, HBz.out⟩
            case measure => simp [intOf]; omega
      · have hnn : decide ((0 : Int) < n0) = false := by simpa using hn
        go_upto_region 12 with fail
        have hV1 : Vr 3 (wr.alloc (.cells #[.int .i64 0, .int .i64 1, .int .i64 2, .int .i64 3] 3)) wr.heap.size (.slice (some ⟨wr.heap.size, 0, none⟩) 4 4) 4 ((leftL false false false false).map (Value.int .i64)) := vr_lit 3 wr [.int .i64 0, .int .i64 1, .int .i64 2, .int .i64 3] (Nat.le_refl _) (by simp)
        have hb1 := below_alloc wr (.cells #[.int .i64 0, .int .i64 1, .int .i64 2, .int .i64 3] 3)
        have hI1 := HI0.out.below hb1
        have hR1 := HRr.out.below hb1
        have HB1 := Kp.mk (HB0.out.trans (hb1.mono HLZ.out))
        have hap : ∀ k, (Value.slice A8 (4 * i) c8).ownBlock = some k → (Value.slice (some (⟨wr.heap.size, 0, none⟩ : Addr)) 4 4).ownBlock ≠ some k := fun k hk e => by
          have h1 := (HRr.out.lt k hk).2
          simp [Value.ownBlock] at e
          omega
        have HV1 := Kp.mk (hV1.lower HLZ.out)
        have HI1 := Kp.mk hI1
        have HR1 := Kp.mk hR1
        have HAP := Kp.mk hap
        clear hV1 hb1 hI1 hR1 hap
        go_wp2_with fail
        generalize hgw : wr.alloc (.cells #[.int .i64 0, .int .i64 1, .int .i64 2, .int .i64 3] 3) = w3 at *
        clear hgw
        go_loopw [8, 10, 11] (fun s8 s10 s11 wq => AllR W lo i x b base s8 s10 s11 wq) (fun _ _ s11 _ => slN s11)
        case atStart => exact ⟨0, A8, 4 * i, c8, some ⟨wr.heap.size, 0, none⟩, 4, 4, false, false, false, false, rfl, rfl, rfl, by omega, rfl, HR1.out, HV1.out, HAP.out, HI1.out, HB1.out⟩
        case round =>
          clear HR1 HV1 HAP HI1 HB1
          obtain ⟨τ, A8, t, c8, A, n, c, e0, e1, e2, e3, rfl, rfl, rfl, hτ, ht, hR, hL, hap, hI, hB⟩ := hrel
          have hn4 : n ≤ 4 := by have := left_len e0 e1 e2 e3; have := hL.len; simp at this; omega
          have hln : (leftL e0 e1 e2 e3).length = n := by have := hL.len; simpa using this
          by_cases hl2 : (0 : Int) < n
          · have hn0 : 0 < n := by omega
            obtain ⟨k, hk⟩ : ∃ k, k = τ % n := ⟨_, rfl⟩
            have hkn : k < n := hk ▸ Nat.mod_lt _ hn0
            obtain ⟨τ2, hτ2⟩ : ∃ τ2, τ2 = τ / n := ⟨_, rfl⟩
            have hτ3 : τ2 ≤ 24 := by rw [hτ2]; exact Nat.le_trans (Nat.div_le_self _ _) hτ
            have HK := Kp.mk (show (τ : Int) % n = (k : Nat) by rw [hk]; rfl)
            have HT := Kp.mk (show wrap64 ((τ : Int) / n) = (τ2 : Nat) by rw [hτ2]; unfold wrap64; have h1 : ((τ / n : Nat) : Int) = (τ : Int) / n := rfl; rw [← h1]; omega)
            obtain ⟨v, j, f0, f1, f2, f3, g0, g1, g2, g3, y1, y2, y3, y4, y5, y6, y7, y8, y9⟩ := left_some (show k < (leftL e0 e1 e2 e3).length by omega)
            obtain ⟨bL, oL, eL, _, hcL⟩ := hL.vd.at_ hn0
            subst eL
            have dk := hcL k (.int .i64 v) (by rw [List.getElem?_map, y1]; rfl)
            have HY := Kp.mk (And.intro y4 (And.intro y5 (And.intro y6 (And.intro y7 (And.intro y8 y9)))))
            have HIi := Kp.mk hI
            have HR := Kp.mk hR
            have HL := Kp.mk hL
            have HAP := Kp.mk hap
            have HBq := Kp.mk hB
            have HTT := Kp.mk ht
            have ht99 : t ≤ 99 := by have := hI; have : (ld4 e0 e1 e2 e3 : Int) ≤ 3 := by omega
                                     omega
            clear hcL hL hR hI hB hap ht hk hτ2 y1 y4 y5 y6 y7 y8 y9
            go_upto_region 16 with fail
            rw [HK.out, HT.out]
            have hkn' : (k : Int) < n := by omega
            go_wp2_with fail
            refine (xstep_in HIi.out j HY.out.1 _ _ (by unfold Ser.plusP; have h1 := HTT.out; have h2 := HY.out.2.1; rw [show (4 * (i : Int) + v) = (t : Int) + (j : Nat) by omega]) (by have h1 := HTT.out; have h2 := HY.out.2.1; omega) HY.out.2.2.2.1).mono ?_
            rintro e w5 ⟨A', c', rfl, hR5, hI5, hC5⟩
            have hno := HIi.out.no_row HR.out
            have hnoL := HIi.out.no_row HL.out
            have hR6 := HR.out.stay hC5 hno
            have hL6 := HL.out.stay hC5 hnoL
            have hz5 : lo ≤ w5.heap.size := by have := HBq.out.size; have := hC5.size; have := HLO.out; omega
            have HB5 := Kp.mk (HBq.out.trans (hC5.below (B := lo) (fun k e => by rcases e with rfl | rfl; exact HX.out.1; exact HX.out.2) (by have := HBq.out.size; have := HLO.out; omega)))
            have hI5 : It4 w5 x b base ((t : Int) + (ld4 g0 g1 g2 g3 : Nat)) (lf4 g0 g1 g2 g3) := hI5
            obtain ⟨N, hN⟩ : ∃ N, N = ld4 g0 g1 g2 g3 := ⟨_, rfl⟩
            have hN4 : N ≤ 4 := hN ▸ ld4_le _ _ _ _
            rw [← hN] at hI5 hR5 ⊢
            have HN := Kp.mk hN
            clear hN
            have hno5 := hI5.no_row hR6
            have hnoL5 := hI5.no_row hL6
            obtain ⟨A9, c9, w6, hrun, hR7, hC6, hat⟩ := run_appendV Try.underlying41 info_iE rfl (by omega) 41 hR6 hR5.vd (rng_one _ _) (by omega) hz5
            have hL7 := hL6.stay hC6 (fun k hk e => HAP.out k e hk)
            have hI7 := hI5.stay hC6 (fun e => hno5 x e (Or.inl rfl)) (fun e => hno5 b e (Or.inr rfl))
            have HB7 := Kp.mk (HB5.out.trans (hC6.below (B := lo) (fun k e => (hR6.lt k e).1) hz5))
            have HLB := Kp.mk (show (∀ k, (Value.slice (some (⟨bL, oL, none⟩ : Addr)) n c).ownBlock = some k → k < w5.heap.size) from fun k hk => (hL6.lt k hk).2)
            have HA9 := Kp.mk hR7.lt
            rw [show rngV 0 t ++ rngV t N = rngV 0 (t + N) from by have := rngV_add 0 t N; rw [Int.zero_add] at this; exact this] at hR7
            have HR7 := Kp.mk hR7
            have HL7 := Kp.mk hL7
            have HI7 := Kp.mk hI7
            have HZ7 := Kp.mk (show lo ≤ w6.heap.size by have := hC6.size; omega)
            clear hno hnoL hR6 hL6 hR5 hI5 hC5 hno5 hnoL5 hR7 hL7 hI7 hC6 hat HR HL HIi HBq HB5 hz5
            go_upto_region 21 with (at_builtin; refine Lib.wpList_append_run _ rfl _ _ _ _ rfl _ _ rfl rfl _ _ hrun ?_)
            clear hrun
            have hkc : (k : Int) ≤ c := by have := HL7.out.vd.le; omega
            have hkc2 : k ≤ c := by omega
            have hw1 : IntKind.i64.wrap ((k : Int) + 1) = (k : Int) + 1 := by rw [IntKind.wrap_i64]; omega
            obtain ⟨oo, hoo, hslice⟩ := run_sl_from bL oL n c (k + 1) (by omega) (HL7.out.vd.le)
            rw [show ((k + 1 : Nat) : Int) = (k : Int) + 1 by omega] at hslice
            have HOO := Kp.mk hoo
            clear hoo
            refine wp_region_held_drew (S := fun X => Below w6.heap.size w6 X) (by kernel_rfl) ((Below.refl _ _).drew) (fun hS0 => ?_)
            change Below _ w6 w6.drew at hS0
            generalize w6.drew = u at *
            refine takeD (i := 1) (v := .slice (some ⟨bL, oL, none⟩) n c) (some 76) rfl rfl (by kernel_rfl) (by kernel_rfl) (by kernel_rfl) (fun _ _ _ h => h) (Or.inl ⟨by rfl, ?_⟩) hS0 ?_
            · rintro w' hq
              go_simp
            try simp only [Act.put, List.setIfInBounds_toArray, List.set_cons_zero, List.set_cons_succ]
            refine takeD (i := 2) (v := .int .i64 k) (some 77) rfl rfl (by kernel_rfl) (by kernel_rfl) (by kernel_rfl) (fun _ _ _ h => h) (Or.inl ⟨by rfl, ?_⟩) hS0 ?_
            · rintro w' hq
              go_simp
            try simp only [Act.put, List.setIfInBounds_toArray, List.set_cons_zero, List.set_cons_succ]
            refine takeD (i := 3) (v := .slice (some ⟨bL, oL, none⟩) k c) (some 78) rfl rfl (by kernel_rfl) (by kernel_rfl) (by kernel_rfl) (fun _ _ _ h => h) (Or.inl ⟨by rfl, ?_⟩) hS0 ?_
            · rintro w' hq
              go_simp
            try simp only [Act.put, List.setIfInBounds_toArray, List.set_cons_zero, List.set_cons_succ]
            refine takeD (i := 5) (v := .slice (some ⟨bL, oL, none⟩) n c) (some 80) rfl rfl (by kernel_rfl) (by kernel_rfl) (by kernel_rfl) (fun _ _ _ h => h) (Or.inl ⟨by rfl, ?_⟩) hS0 ?_
            · rintro w' hq
              go_simp
            try simp only [Act.put, List.setIfInBounds_toArray, List.set_cons_zero, List.set_cons_succ]
            refine takeD (i := 6) (v := .int .i64 k) (some 81) rfl rfl (by kernel_rfl) (by kernel_rfl) (by kernel_rfl) (fun _ _ _ h => h) (Or.inl ⟨by rfl, ?_⟩) hS0 ?_
            · rintro w' hq
              go_simp
            try simp only [Act.put, List.setIfInBounds_toArray, List.set_cons_zero, List.set_cons_succ]
            refine takeD (i := 7) (v := .int .i64 ((k : Int) + 1)) (some 82) rfl rfl (by kernel_rfl) (by kernel_rfl) (by kernel_rfl) (fun _ _ _ h => h) (Or.inl ⟨by rfl, ?_⟩) hS0 ?_
            · rintro w' hq
              go_simp
            try simp only [Act.put, List.setIfInBounds_toArray, List.set_cons_zero, List.set_cons_succ]
            refine takeD (i := 8) (v := .slice (some ⟨bL, oo, none⟩) (n - (k + 1)) (c - (k + 1))) (some 83) rfl rfl (by kernel_rfl) (by kernel_rfl) (by kernel_rfl) (fun _ _ _ h => h) (Or.inl ⟨by rfl, ?_⟩) hS0 ?_
            · rintro w' hq
              go_simp
            try simp only [Act.put, List.setIfInBounds_toArray, List.set_cons_zero, List.set_cons_succ]
            refine wpAnyH_ready (rs := [0]) (by kernel_rfl) (by simp) ?_
            refine AllReadyH.cons rfl (fun K hK => ?_) AllReadyH.nil
            try rw [if_pos (by rfl)]
            have hS1 : Below w6.heap.size w6 (u.alloc (.cells #[] 3)) := hS0.trans ((below_alloc u _).mono hS0.size)
            have hVe : Vr 3 (u.alloc (.cells #[] 3)) w6.heap.size (.slice (some ⟨u.heap.size, 0, none⟩) 0 0) 0 [] := (vr_lit 3 u [] (Nat.le_refl _) (by simp)).lower hS0.size
            go_simp
            refine hK.out _ _ hS1 (fun _ => ?_)
            clear hK K
            try simp only [Act.put, List.setIfInBounds_toArray, List.set_cons_zero, List.set_cons_succ]
            generalize u.alloc (.cells #[] 3) = u1 at *
            generalize u.heap.size = ge at *
            have hd1 := (HL7.out.below hS1).vd
            obtain ⟨A1, m1, u2, hr1, hV2, hC2, -⟩ := run_appendV Try.underlying41 info_iE rfl (by omega) 41 hVe (hd1.fore k (by omega)) (fun u hu => map_int_one _ u (List.mem_of_mem_take hu)) (by omega) hS1.size
            have hS2 : Below w6.heap.size w6 u2 := hS1.trans (hC2.below (B := w6.heap.size) (fun k hk => (hVe.lt k hk).1) hS1.size)
            have hr1 : (Builtin.append_ #[41, 41] 41 #[.slice (some ⟨ge, 0, none⟩) 0 0, .slice (some ⟨bL, oL, none⟩) k c]).run Try.prog u1 = .ok (.slice A1 k m1) u2 := by rw [Nat.zero_add] at hr1; exact hr1
            have hV2 : Vr 3 u2 w6.heap.size (.slice A1 k m1) k (((leftL e0 e1 e2 e3).map (Value.int .i64)).take k) := by rw [Nat.zero_add] at hV2; simpa using hV2
            clear hd1 hC2 hVe
            refine wpAnyH_ready (rs := [4]) (by kernel_rfl) (by simp) ?_
            refine AllReadyH.cons rfl (fun K hK => ?_) AllReadyH.nil
            try rw [if_pos (by rfl)]
            refine inbOp_append 79 rfl (.tmp 75) (.tmp 78) rfl rfl rfl hr1 (hK.out _ _ hS2 (fun _ => ?_))
            clear hK K hr1
            try simp only [Act.put, List.setIfInBounds_toArray, List.set_cons_zero, List.set_cons_succ]
            have hd2 := ((HL7.out.below hS2).vd.behind (k + 1) (by omega) oo (c - (k + 1)) HOO.out rfl)
            obtain ⟨A2, m2, u3, hr2, hV3, hC3, -⟩ := run_appendV Try.underlying41 info_iE rfl (by omega) 41 hV2 hd2 (fun u hu => map_int_one _ u (List.mem_of_mem_drop hu)) (by omega) hS2.size
            have hS3 : Below w6.heap.size w6 u3 := hS2.trans (hC3.below (B := w6.heap.size) (fun k hk => (hV2.lt k hk).1) hS2.size)
            have hkn2 : k + (n - (k + 1)) = n - 1 := by omega
            rw [hkn2] at hr2 hV3
            rw [← List.map_take, ← List.map_drop, ← List.map_append, HY.out.2.2.1] at hV3
            clear hd2 hC3 hV2
            refine wpAnyH_ready (rs := [9]) (by kernel_rfl) (by simp) ?_
            refine AllReadyH.cons rfl (fun K hK => ?_) AllReadyH.nil
            try rw [if_pos (by rfl)]
            refine inbOp_append 84 rfl (.tmp 79) (.tmp 83) rfl rfl rfl hr2 (hK.out _ _ hS3 (fun _ => ?_))
            clear hK K hr2
            try simp only [Act.put, List.setIfInBounds_toArray, List.set_cons_zero, List.set_cons_succ]
            refine takeD (i := 10) (v := .slice A2 (n - 1) m2) (some 11) rfl rfl (by kernel_rfl) (by kernel_rfl) (by kernel_rfl) (fun _ _ _ h => h) (Or.inl ⟨by rfl, ?_⟩) hS3 ?_
            · rintro w' hq
              go_simp
            try simp only [Act.put, List.setIfInBounds_toArray, List.set_cons_zero, List.set_cons_succ]
            refine wpAnyH_done (by kernel_rfl) ?_ _
            have HV3 := Kp.mk hV3
            have HS3 := Kp.mk hS3
            clear hV3 hS3 hS2 hS1 hS0 hslice
            go_wp2_with fail
            go_roundw
            case rel => exact ⟨τ2, A9, t + N, c9, A2, n - 1, m2, f0, f1, f2, f3, rfl, rfl, rfl, hτ3, by have h1 := HTT.out; have h2 := HN.out; have h3 := HY.out.2.2.2.2.1; omega, HR7.out.below HS3.out, HV3.out.lower HZ7.out, fun k hk e => by have h1 := (HA9.out k hk).2; have h2 := (HV3.out.lt k e).1; omega, by have h1 := HI7.out.below HS3.out; rw [HY.out.2.2.2.2.2]; rw [show ((t + N : Nat) : Int) = (t : Int) + (N : Nat) by omega]; exact h1, HB7.out.trans (HS3.out.mono HZ7.out)⟩
            case measure => show n - 1 < n; omega
          · have hnz : n = 0 := by omega
            obtain ⟨rfl, rfl, rfl, rfl⟩ := left_nil (show (leftL e0 e1 e2 e3).length = 0 by omega)
            have ht4 : t = 4 * (i + 1) := by rw [ht]; show 4 * i + 4 = _; omega
            subst ht4
            subst hnz
            have HRz := Kp.mk hR
            have HIz := Kp.mk hI
            have HBz := Kp.mk hB
            clear hR hL hI hB hap ht hln
            go_wp2_with fail
            go_roundw
            case rel => exact ⟨i + 1, c8, A8, rfl, by go_num, by omega, HRz.out, HIz.out, HBz.out⟩
            case measure => simp [intOf]; omega
    · obtain rfl : i = 25 := by omega
      have hw := xwaits_i (show II wr x b _ _ _ _ from hI)
      change Calls _ _ _ _ (fun e w' => e = .returned (.int .i64 0) ∧ w' = wr) at hw
      have hd := hR.vd
      have HBl := Kp.mk hB
      clear hR hI hB hl1 hi
      go_wp2_with fail
      go_loop [16] (fun s16 => ∃ j : Nat, s16 = .int .i64 j ∧ j ≤ 100) (fun s16 => 101 - (intOf s16).toNat)
      case atStart => exact ⟨0, rfl, Nat.zero_le _⟩
      case round =>
        obtain ⟨j, rfl, hj⟩ := hrel
        by_cases hlt : (j : Int) < 100
        · obtain ⟨b3, o3, e3, _, hc3⟩ := hd.at_ (by omega)
          subst e3
          have d3 := hc3 j _ (rngV_at 0 (4 * 25) j (by omega))
          rw [Int.zero_add] at d3
          clear hc3 hd hw
          go_wp2_with fail
          go_round
          case rel => exact ⟨j + 1, by go_num, by omega⟩
          case measure => simp [intOf]; omega
        · clear hd
          have hww := iworks_any wr
          go_wp2_with (first | (refine hw.mono ?_; rintro e q ⟨rfl, hq⟩; subst hq) | (refine hww.mono ?_; rintro e q ⟨rfl, hq⟩))
          go_ret
          exact ⟨rfl, HBl.out.trans (hq.mono (by have := HBl.out.size; have := HLO.out; omega))⟩
theorem inboxAll_walk (r0 : Int) (A0 : Option Addr) (n0 c0 : Nat) (zs : List Int) (W : World) (wf : (Lit.int .i64 r0).wf = true) (hr : Frame.IsRow .i64 W A0 n0 c0 zs) (re : c0 * 8 ≤ 140737488351232) : Calls Try.prog 5 #[.int .i64 r0, .slice A0 n0 c0] W fun e w' => e = .returned (.bool true) ∧ Below W.heap.size W w' := inboxAll_any r0 (Rd.of_row hr)
end Go.Proofs.Ytdhidgcjpeafnaa.Oct
