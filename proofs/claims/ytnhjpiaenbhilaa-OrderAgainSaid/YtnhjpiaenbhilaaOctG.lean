/- Contracts of layer 1: Seal, and the document's. -/
import Derived.Test.YtnhjpiaenbhilaaOctF
namespace Go.Proofs.Ytnhjpiaenbhilaa.Oct
open Go.RowKit
set_option linter.unusedVariables false

def sealP (kind : Int) (l : List Int) : List Int × Int :=
  if 0 ≤ kind ∧ kind < 256 then (if 512 < l.length + 3 then ([], 5) else (dg 1 kind ++ l ++ dg 2 (sumP (dg 1 kind ++ l)), 0)) else ([], 2)
theorem sealP_by (kind : Int) (l : List Int) (h : By l) : By (sealP kind l).1 := by
  unfold sealP
  split
  · split
    · exact By.nil
    · exact ((dg_by _ _).append h).append (dg_by _ _)
  · exact By.nil

set_option maxRecDepth 100000 in
set_option maxHeartbeats 400000 in
theorem seal_any {w : World} {B : Nat} {A : Option Addr} {n c : Nat} {l : List Int} (kind : Int) (h : Rd .u8 w B A n c l) (hl : By l) (hB : B ≤ w.heap.size) (hn : n ≤ 140737488355000) :
    Calls Try.prog 88 #[.int .i64 kind, .slice A n c] w (PairOf (sealP kind l).1 (sealP kind l).2 w) := by
  have hlen := h.len
  have hf1 : fitsP kind 1 = decide (0 ≤ kind ∧ kind < 256) := by unfold fitsP; rfl
  by_cases hk : 0 ≤ kind ∧ kind < 256
  · have hf : fitsP kind 1 = true := by rw [hf1]; exact decide_eq_true hk
    have Hf := Kp.mk hf
    by_cases hm : 512 < n + 3
    · have hp := Kp.mk (show sealP kind l = ([], 5) by unfold sealP; rw [if_pos hk, hlen, if_pos hm])
      have hm' : (509 : Int) < n := by omega
      clear hf hf1 hk hlen hm
      go_enter Try.func88, Try.ntmps88
      go_wp2_with fail
      refine (fits_any kind 1 (by omega) _).mono ?_
      rw [Hf.out]
      rintro e w' ⟨rfl, rfl⟩
      go_wp2_with fail
      rw [hp.out]
      go_ret2
      exact PairOf.nil 5 w (Below.refl _ _)
    · have hp := Kp.mk (show sealP kind l = (dg 1 kind ++ l ++ dg 2 (sumP (dg 1 kind ++ l)), 0) by unfold sealP; rw [if_pos hk, hlen, if_neg hm])
      have hm' : (n : Int) ≤ 509 := by omega
      obtain ⟨hk0, hk1⟩ := hk
      have hmk := run_make8 (n + 3) (by omega) (1 + (n : Int) + 2) (by omega)
      have ho0 := own_made w w.heap.size (n + 3) (Nat.le_refl _) (by omega)
      clear hf hf1 hlen hm
      go_enter Try.func88, Try.ntmps88
      go_wp2_with fail
      refine (fits_any kind 1 (by omega) _).mono ?_
      rw [Hf.out]
      rintro e w' ⟨rfl, rfl⟩
      go_wp2_with fail
      have hba := (Below.refl w.heap.size w).alloc (Nat.le_refl _) (.cells (madeCells (Value.int .u8 0).cells (n + 3)) 5)
      refine (digits_any 1 kind ho0 (by simp) (by omega) (by omega) hk0 (by omega)).mono ?_
      rintro e w1 ⟨A1, n1, c1, rfl, ho1, hb1⟩
      have hn1 : n1 = 1 := by have g1 := ho1.len; rw [List.length_append, dg_len] at g1; simpa using g1.symm
      subst hn1
      clear hmk ho0
      have hb1' := hba.trans hb1
      have hz1 := hb1'.size
      have hr1 := h.below' hb1' hB
      go_wp2_with (at_builtin; refine wpList_append8 rfl (.tmp 21) (.tmp 22) rfl rfl ho1 rfl hr1 (by omega) hz1 ?_; intro A5 c5 w5 ho5 hb5)
      have hby : By (dg 1 kind ++ l) := (dg_by _ _).append hl
      refine (sum_any ho5.rd hby).mono ?_
      rintro e w' ⟨rfl, rfl⟩
      have hb6 := hb1'.trans hb5
      have hz6 := hb6.size
      have hs := sumP_bd _ hby
      go_wp2_with fail
      refine (digits_any 2 _ ho5 hz6 (by omega) (by omega) hs.1 (by omega)).mono ?_
      rintro e w6 ⟨A6, n6, c6, rfl, ho6, hb7⟩
      go_wp2_with fail
      rw [hp.out]
      go_ret2
      exact ⟨A6, n6, c6, rfl, ho6, hb6.trans hb7⟩
  · have hf : fitsP kind 1 = false := by rw [hf1]; exact decide_eq_false hk
    have Hf := Kp.mk hf
    have hp := Kp.mk (show sealP kind l = ([], 2) by unfold sealP; rw [if_neg hk])
    clear hf hf1 hlen hk
    go_enter Try.func88, Try.ntmps88
    go_wp2_with fail
    refine (fits_any kind 1 (by omega) _).mono ?_
    rw [Hf.out]
    rintro e w' ⟨rfl, rfl⟩
    go_wp2_with fail
    rw [hp.out]
    go_ret2
    exact PairOf.nil 2 w (Below.refl _ _)

set_option maxRecDepth 100000 in
set_option maxHeartbeats 400000 in
theorem refSeal_any {w : World} {B : Nat} {A : Option Addr} {n c : Nat} {l : List Int} (kind : Int) (h : Rd .u8 w B A n c l) (hl : By l) (hB : B ≤ w.heap.size) (hn : n ≤ 140737488355000) :
    Calls Try.prog 70 #[.int .i64 kind, .slice A n c] w (PairOf (sealP kind l).1 (sealP kind l).2 w) := by
  have hlen := h.len
  by_cases hk : 0 ≤ kind ∧ kind < 256
  · by_cases hm : 512 < n + 3
    · have hp := Kp.mk (show sealP kind l = ([], 5) by unfold sealP; rw [if_pos hk, hlen, if_pos hm])
      have hm' : (509 : Int) < n := by omega
      have hN : (n : Int) ≤ 140737488355000 := by omega
      obtain ⟨hk0, hk1⟩ := hk
      have hk2 : kind ≤ 255 := by omega
      clear hlen hm hn hk1
      go_enter Try.func70, Try.ntmps70
      go_wp2_with fail
      rw [hp.out]
      go_ret2
      exact PairOf.nil 5 w (Below.refl _ _)
    · have hp := Kp.mk (show sealP kind l = (dg 1 kind ++ l ++ dg 2 (sumP (dg 1 kind ++ l)), 0) by unfold sealP; rw [if_pos hk, hlen, if_neg hm])
      have hm' : (n : Int) ≤ 509 := by omega
      obtain ⟨hk0, hk1⟩ := hk
      have hk2 : kind ≤ 255 := by omega
      have hdg : dg 1 kind = [kind] := by simp [dg]; omega
      have hby : By (dg 1 kind ++ l) := (dg_by _ _).append hl
      have hs := sumP_bd _ hby
      have hp2 := Kp.mk (putP_two (dg 1 kind ++ l) _ hs.1 hs.2)
      rw [hdg] at hp hp2 hby hs
      generalize hq : sumP ([kind] ++ l) = q at *
      have hq' := Kp.mk hq
      obtain ⟨hs1, hs2⟩ := hs
      clear hlen hm hn hk1 hdg hq
      have ho0 := own_lit w [kind] w.heap.size (Nat.le_refl _) (by simp [maxLen])
      have hba := (Below.refl w.heap.size w).alloc (Nat.le_refl _) (.cells ([kind].map (Value.int .u8)).toArray 5)
      have hr0 := h.below' hba hB
      go_enter Try.func70, Try.ntmps70
      go_wp2_with (at_builtin; refine wpList_append8 rfl (.tmp 19) (.tmp 20) rfl rfl ho0 rfl hr0 (by simp; omega) (by simp) ?_; intro A1 c1 w1 ho1 hb1)
      refine (refSum_any ho1.rd hby).mono ?_
      rintro e w' ⟨rfl, rfl⟩
      have hb2 := hba.trans hb1
      have hz2 := hb2.size
      rw [hq'.out]
      go_wp2_with fail
      have hba3 := (Below.refl w1.heap.size w1).alloc (Nat.le_refl _) (.cells ([q].map (Value.int .i64)).toArray 3)
      have hr3 := (ho1.alloc (.cells ([q].map (Value.int .i64)).toArray 3)).rd
      have hr4 := rd_lit .i64 w1 3 [q] (by simp [maxLen]) (w1.heap.size + 1) (by omega)
      refine (refPut_any 2 hr3 hr4 (by simp) (by simp) (by simp; omega)).mono ?_
      rw [hp2.out]
      rintro e w6 ⟨A6, n6, c6, rfl, ho6, hb7⟩
      go_wp2_with fail
      rw [hp.out]
      go_ret2
      exact ⟨A6, n6, c6, rfl, ho6.lower (by simp; omega), (hb2.alloc (by omega) _).trans (hb7.mono (by simp; omega))⟩
  · have hp := Kp.mk (show sealP kind l = ([], 2) by unfold sealP; rw [if_neg hk])
    clear hlen hn
    by_cases h0 : kind < 0
    · clear hk
      go_enter Try.func70, Try.ntmps70
      go_wp2_with fail
      rw [hp.out]
      go_ret2
      exact PairOf.nil 2 w (Below.refl _ _)
    · have h1 : 255 < kind := by omega
      clear hk
      go_enter Try.func70, Try.ntmps70
      go_wp2_with fail
      rw [hp.out]
      go_ret2
      exact PairOf.nil 2 w (Below.refl _ _)
end Go.Proofs.Ytnhjpiaenbhilaa.Oct
