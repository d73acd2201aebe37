/- The walk of OctetTurned. -/
import Derived.Test.YtefohkhipnikhaaOctK
import Derived.Test.YtefohkhipnikhaaOctCrc
import Derived.Test.YtefohkhipnikhaaSerC
import Derived.RegionTactic
import Derived.BigRegion
import Derived.ChangeAlike
import Derived.StillTailTactics
namespace Go.Proofs.Ytefohkhipnikhaa.Oct
open Go.RowKit
set_option linter.unusedVariables false

theorem seal_ok (kind : Int) (l : List Int) (hk : 0 ≤ kind ∧ kind < 256) (hn : l.length ≤ 509) : sealP kind l = (dg 1 kind ++ l ++ dg 2 (sumP (dg 1 kind ++ l)), 0) := by
  unfold sealP; rw [if_pos hk, if_neg (by omega)]
theorem dg_one (k : Int) (hk : 0 ≤ k ∧ k < 256) : dg 1 k = [k] := by simp [dg]; omega
theorem dg_two (s : Int) (hs : 0 ≤ s ∧ s < 65536) : dg 2 s = [s / 256, s % 256] := by simp [dg]; omega
/-- The frame of a kind and a body. -/
def frm (kind : Int) (l : List Int) : List Int := (kind :: l) ++ [sumP (kind :: l) / 256, sumP (kind :: l) % 256]
theorem seal_frm (kind : Int) (l : List Int) (hk : 0 ≤ kind ∧ kind < 256) (hl : By l) (hn : l.length ≤ 509) : sealP kind l = (frm kind l, 0) := by
  have hby : By (kind :: l) := By.cons hk hl
  rw [seal_ok kind l hk hn, dg_one kind hk]
  show ([kind] ++ l ++ dg 2 (sumP ([kind] ++ l)), 0) = _
  rw [show [kind] ++ l = kind :: l from rfl, dg_two _ (sumP_bd _ hby)]
  rfl
theorem frm_by (kind : Int) (l : List Int) (hk : 0 ≤ kind ∧ kind < 256) (hl : By l) : By (frm kind l) := by
  have hby : By (kind :: l) := By.cons hk hl
  have hs := sumP_bd _ hby
  exact hby.append (By.cons (by omega) (By.cons (by omega) By.nil))
theorem frm_len (kind : Int) (l : List Int) : (frm kind l).length = l.length + 3 := by simp [frm]
theorem frm_zero (kind : Int) (l : List Int) (hk : 0 ≤ kind ∧ kind < 256) (hl : By l) : crcN 65535 (frm kind l) = 0 := by
  have hby : By (kind :: l) := By.cons hk hl
  have hs := sumP_bd _ hby
  refine (residue (kind :: l) _ _ hby (by omega) (by omega)).2 ?_
  have : sumP (kind :: l) = (crcN 65535 (kind :: l) : Nat) := rfl
  omega
/-- Open's error of what is as long as a frame. -/
theorem open_err (l : List Int) (hl : By l) (h3 : 3 ≤ l.length) (h5 : l.length ≤ 512) : (openP l).2.2 = if crcN 65535 l = 0 then 0 else 30 := by
  have hn := num_two l l.length hl rfl (by omega)
  have e : l = l.take (l.length - 2) ++ [l.getD (l.length - 2) 0, l.getD (l.length - 1) 0] := by
    have e1 : l.drop (l.length - 2) = [l.getD (l.length - 2) 0, l.getD (l.length - 1) 0] := by
      rw [List.drop_eq_getElem_cons (by omega), show l.length - 2 + 1 = l.length - 1 from by omega, List.drop_eq_getElem_cons (by omega), show l.length - 1 + 1 = l.length from by omega, List.drop_eq_nil_of_le (by omega)]
      rw [List.getD_eq_getElem?_getD, List.getD_eq_getElem?_getD, List.getElem?_eq_getElem (by omega), List.getElem?_eq_getElem (by omega)]; rfl
    rw [← e1, List.take_append_drop]
  have b1 := hl.getD (l.length - 2)
  have b2 := hl.getD (l.length - 1)
  have hr := residue (l.take (l.length - 2)) _ _ (hl.take _) b1 b2
  rw [← e] at hr
  unfold openP
  rw [if_neg (by omega), if_neg (by omega), hn]
  have hs : sumP (l.take (l.length - 2)) = (crcN 65535 (l.take (l.length - 2)) : Nat) := rfl
  by_cases h : crcN 65535 l = 0
  · have := hr.1 h
    rw [if_pos h, if_pos (by omega)]
  · rw [if_neg h, if_neg (fun e2 => h (hr.2 (by omega)))]
theorem open_frm (kind : Int) (l : List Int) (hk : 0 ≤ kind ∧ kind < 256) (hl : By l) (hn : l.length ≤ 509) : openP (frm kind l) = (kind, l, 0) := by
  have hby := frm_by kind l hk hl
  have hlen := frm_len kind l
  have herr := open_err (frm kind l) hby (by omega) (by omega)
  rw [if_pos (frm_zero kind l hk hl)] at herr
  have hn1 := num_one (frm kind l) hby (by omega)
  unfold openP at herr ⊢
  rw [if_neg (by omega), if_neg (by omega)] at herr ⊢
  split at herr
  · rename_i h
    rw [if_pos h, hn1, hlen]
    have e1 : (frm kind l).getD 0 0 = kind := rfl
    have e2 : ((frm kind l).drop 1).take (l.length + 3 - 3) = l := by
      show (l ++ [sumP (kind :: l) / 256, sumP (kind :: l) % 256]).take (l.length + 3 - 3) = l
      rw [show l.length + 3 - 3 = l.length from by omega, List.take_left']
      rfl
    rw [e1, e2]
  · simp at herr

theorem flip_u8 (v : Int) (hv : 0 ≤ v ∧ v < 256) (r : Nat) (hr : r < 8) : bits .xor .u8 v (128 / 2 ^ r) = ((v.toNat ^^^ 2 ^ (7 - r) : Nat) : Int) := by
  have e : (128 : Int) / 2 ^ r = ((2 ^ (7 - r) : Nat) : Int) := by
    have : r = 0 ∨ r = 1 ∨ r = 2 ∨ r = 3 ∨ r = 4 ∨ r = 5 ∨ r = 6 ∨ r = 7 := by omega
    rcases this with rfl | rfl | rfl | rfl | rfl | rfl | rfl | rfl <;> rfl
  have h2 : 2 ^ (7 - r) < 256 := Nat.lt_of_lt_of_le (Nat.pow_lt_pow_right (by omega) (show 7 - r < 8 by omega)) (Nat.le_refl _)
  rw [e, u8_xor v _ hv.1 hv.2 (Int.natCast_nonneg _) (Int.ofNat_lt.2 h2), Int.toNat_natCast]
theorem set_bits (f lx : List Int) (n2 p k b : Nat) (hbl : By lx) (hl : lx.length = n2) (hpk : p + k < 8 * n2) (hbits : ∀ r, r < 8 * n2 → bl lx r = Bool.xor (bl f r) (errB p b k r)) (hb : b.testBit k = true) :
    ∀ r, r < 8 * n2 → bl (lx.set ((p + k) / 8) (bits .xor .u8 (lx[(p + k) / 8]?.getD 0) (128 / 2 ^ ((p + k) % 8)))) r = Bool.xor (bl f r) (errB p b (k + 1) r) := by
  intro r hr
  rw [← List.getD_eq_getElem?_getD, flip_u8 _ (hbl.getD _) _ (by omega), flip_bits lx n2 (p + k) hbl hl hpk r hr, hbits r hr, errB_succ, hb]
  simp
theorem keep_bits (f lx : List Int) (n2 p k b : Nat) (hbits : ∀ r, r < 8 * n2 → bl lx r = Bool.xor (bl f r) (errB p b k r)) (hb : b.testBit k = false) :
    ∀ r, r < 8 * n2 → bl lx r = Bool.xor (bl f r) (errB p b (k + 1) r) := by
  intro r hr
  rw [hbits r hr, errB_succ, hb]
  simp
theorem tr_yes (b k : Nat) (h : b.testBit k = true) : (true = true ↔ ∃ j, j < k + 1 ∧ b.testBit j = true) := ⟨fun _ => ⟨k, by omega, h⟩, fun _ => rfl⟩
theorem tr_no (b k : Nat) (tr : Bool) (h : b.testBit k = false) (ht : tr = true ↔ ∃ j, j < k ∧ b.testBit j = true) : (tr = true ↔ ∃ j, j < k + 1 ∧ b.testBit j = true) := by
  rw [ht]
  constructor
  · rintro ⟨j, hj, e⟩; exact ⟨j, by omega, e⟩
  · rintro ⟨j, hj, e⟩
    by_cases hjk : j = k
    · subst hjk; rw [h] at e; simp at e
    · exact ⟨j, by omega, e⟩
theorem end_err (f lx : List Int) (n2 p k b : Nat) (tr : Bool) (hf : By f) (hbl : By lx) (hfl : f.length = n2) (hl : lx.length = n2) (h3 : 3 ≤ n2) (h5 : n2 ≤ 512) (hk : k ≤ 16) (hpk : p + k ≤ 8 * n2)
    (hbits : ∀ r, r < 8 * n2 → bl lx r = Bool.xor (bl f r) (errB p b k r)) (ht : tr = true ↔ ∃ j, j < k ∧ b.testBit j = true) (h0 : crcN 65535 f = 0) : (openP lx).2.2 = if tr then 30 else 0 := by
  rw [open_err lx hbl (by omega) (by omega)]
  have hb := burst f lx n2 p b k hf hbl hfl hl hk hpk hbits h0
  cases tr with
  | true =>
    obtain ⟨j, hj, e⟩ := ht.1 rfl
    rw [if_neg (fun h => by have := hb.1 h j hj; rw [e] at this; simp at this)]; rfl
  | false =>
    rw [if_pos (hb.2 (fun j hj => by
      cases he : b.testBit j with
      | false => rfl
      | true => exact absurd (ht.2 ⟨j, hj, he⟩) (by simp)))]; rfl
theorem bit_u16 (b : Int) (h0 : 0 ≤ b) (h1 : b < 65536) (k : Nat) : (bits .and .u16 (b / 2 ^ k) 1 == 1) = b.toNat.testBit k := by
  have e : b / 2 ^ k = ((b.toNat / 2 ^ k : Nat) : Int) := by
    have : b = (b.toNat : Int) := by omega
    conv => lhs; rw [this]
    simp
  have hlt : b.toNat / 2 ^ k < 65536 := Nat.lt_of_le_of_lt (Nat.div_le_self _ _) (by omega)
  rw [e, show (1 : Int) = ((1 : Nat) : Int) from rfl, u16_and_nat _ _ hlt (by omega), nat_mask1, Nat.testBit_eq_decide_div_mod_eq]
  rw [Bool.eq_iff_iff, beq_iff_eq, decide_eq_true_eq]
  omega

set_option maxRecDepth 100000 in
set_option maxHeartbeats 4000000 in
theorem turned_lo {w : World} {A : Option Addr} {n c : Nat} {l : List Int} (x y b : Int) (h : Rd .u8 w w.heap.size A n c l) (hl : By l) (hc : (c : Int) ≤ 140737488351232) (hn : (n : Int) ≤ c) (hm : (n : Int) ≤ 509) (hb0 : 0 ≤ b) (hb1 : b < 65536) :
    Calls Try.prog 7 #[.slice A n c, .agg #[.int .i64 x, .int .i64 y], .int .u16 b] w fun e w' => e = .returned (.bool true) ∧ Below w.heap.size w w' := by
  have hlen := h.len
  have hN : n ≤ 509 := by omega
  have hk1 := (Ser.bringP_bd x 256 (by omega)).1
  have hk2 := (Ser.bringP_bd x 256 (by omega)).2
  go_enter Try.func7, Try.ntmps7
  go_wp2_with fail
  refine (works_any _).mono ?_
  rintro e w1 ⟨rfl, hb1'⟩
  have t1 : Below w.heap.size w w1 := (below_alloc w _).trans (hb1'.mono (by simp))
  have hz0 := hb1'.size
  simp at hz0
  have d0 := hb1'.cell (p := ⟨w.heap.size, 0, none⟩) (by simp)
  have d1 := hb1'.cell (p := ⟨w.heap.size, 1, none⟩) (by simp)
  simp at d0 d1
  clear hb1'
  go_wp2_with fail
  refine (Ser.bring_any x 256 _ (by omega) (by omega)).mono ?_
  rintro e w' ⟨rfl, rfl⟩
  generalize Ser.bringP x 256 = kind at *
  have r1 := h.below t1
  have hseal := Kp.mk (seal_frm kind l ⟨hk1, hk2⟩ hl (by omega))
  go_wp2_with fail
  refine (seal_any kind r1 hl (by omega) (by omega)).mono ?_
  rw [hseal.out]
  rintro e w2 ⟨A2, n2, c2, rfl, ho2, t2⟩
  have hz2 := t2.size
  have hn2 : n2 = l.length + 3 := by have := ho2.len; rw [frm_len] at this; omega
  have r2 := ho2.rd
  have hfby := frm_by kind l ⟨hk1, hk2⟩ hl
  have hopen := Kp.mk (open_frm kind l ⟨hk1, hk2⟩ hl (by omega))
  have Hn2 := Kp.mk hn2
  clear hn2
  go_wp2_with fail
  refine (open_any r2 hfby (Nat.le_refl _)).mono ?_
  rw [hopen.out]
  rintro e w3 ⟨A3, n3, c3, rfl, ho3, t3⟩
  have hz3 := t3.size
  have r3 := ho3.rd
  have ho2' := ho2.below t3 (Nat.le_refl _)
  have t13 := bstep t2 t3 hz2
  have r13 := r1.below' t13 (by omega)
  have d1' : w3.cell? ⟨w.heap.size, 1, none⟩ = some (.int .i64 y) := (t13.cell (p := ⟨w.heap.size, 1, none⟩) (by simp; omega)).trans d1
  clear ho2 ho3 r2 d0 d1
  go_wp2_with fail
  refine (eqBytes_any r3 r13 hl hl).mono ?_
  rw [show decide (l = l) = true from by simp]
  rintro e w' ⟨rfl, rfl⟩
  have i1 : (n2 : Int) ≤ 512 := by have := Hn2.out; omega
  have i2 : (3 : Int) ≤ n2 := by have := Hn2.out; omega
  have hq1 := (Ser.bringP_bd y (8 * (n2 : Int)) (by omega)).1
  have hq2 := (Ser.bringP_bd y (8 * (n2 : Int)) (by omega)).2
  go_wp2_with fail
  refine (Ser.bring_any y (8 * (n2 : Int)) _ (by omega) (by omega)).mono ?_
  rintro e w' ⟨rfl, rfl⟩
  obtain ⟨p, hp⟩ : ∃ p : Nat, Ser.bringP y (8 * (n2 : Int)) = p := ⟨(Ser.bringP y (8 * (n2 : Int))).toNat, by omega⟩
  rw [hp] at hq1 hq2
  generalize Ser.bringP y (8 * (n2 : Int)) = q at *
  subst hp
  have T13 := Kp.mk t13
  have T1 := Kp.mk t1
  have hz13 := t13.size
  clear r3 r13 r1 d1' t3 t2 t13 h
  generalize hf : frm kind l = f at *
  have Hf := Kp.mk hf
  clear hf
  go_wp2_with fail
  go_loopw [14, 15] (fun tv i wr => ∃ (k : Nat) (lx : List Int) (tr : Bool), k ≤ 16 ∧ p + k ≤ 8 * n2 ∧ i = .int .i64 k ∧ tv = .bool tr ∧ Own wr w1.heap.size (.slice A2 n2 c2) n2 lx ∧ By lx ∧ Below w1.heap.size w1 wr ∧ Kp (∀ r, r < 8 * n2 → bl lx r = Bool.xor (bl f r) (errB p b.toNat k r)) ∧ Kp (tr = true ↔ ∃ j, j < k ∧ b.toNat.testBit j = true)) (fun _ i _ => 16 - (intOf i).toNat)
  case atStart => exact ⟨0, f, false, by omega, by omega, rfl, rfl, ho2', hfby, T13.out, Kp.mk (fun r _ => by unfold errB; rw [decide_eq_false (by omega)]; simp), Kp.mk (by simp)⟩
  case round =>
    obtain ⟨k, lx, tr, hk, hpk, rfl, rfl, ho, hbl, hb, hbits, htr⟩ := hrel
    have hzr := hb.size
    by_cases hlt : k < 16 ∧ p + k < 8 * n2
    · obtain ⟨hl1, hl2⟩ := hlt
      have j1 : (k : Int) < 16 := by omega
      have j2 : (p : Int) + k < 8 * (n2 : Int) := by omega
      have hbit := bit_u16 b hb0 hb1 k
      by_cases hbt : b.toNat.testBit k = true
      · rw [hbt] at hbit
        have hq : (p + k) / 8 < n2 := by omega
        obtain ⟨g, rfl, hbg, hgw, hcell, hfr⟩ := own_cell ho ((p + k) / 8) hq
        have hxb := hbl.getD ((p + k) / 8)
        have f1 : (0 : Int) ≤ (p : Int) + k := by omega
        have s1 : IntKind.i64.wrap ((p : Int) + k) = (p : Int) + k := IntWalk.i64_in _ (by omega)
        have s2 : IntKind.i64.wrap (((p : Int) + k).tdiv 8) = ((p : Int) + k) / 8 := IntWalk.i64_quo _ _ (by omega)
        have s3 : ((p : Int) + k).tmod 8 = ((p : Int) + k) % 8 := IntWalk.rem_in _ _ f1
        have s4 : ((p : Int) + k) / 8 < n2 := by omega
        have s5 : (0 : Int) ≤ ((p : Int) + k) / 8 := by omega
        have s6 : (((p : Int) + k) / 8).toNat = (p + k) / 8 := by omega
        have s7 : (0 : Int) ≤ ((p : Int) + k) % 8 := by omega
        have s8 : IntKind.i64.wrap (((p : Int) + k) % 8) = ((p : Int) + k) % 8 := IntWalk.i64_in _ (by omega)
        go_wp2_with fail
        go_still_tail 19, (by kernel_rfl)
        have ho2d : Own wr.drew w1.heap.size (.slice (some ⟨g, 0, none⟩) n2 c2) n2 lx := ho
        have hcd : wr.drew.cell? ⟨g, (p + k) / 8, none⟩ = some (.int .u8 (lx.getD ((p + k) / 8) 0)) := hcell
        have hfd : wr.drew.frozen? ⟨g, (p + k) / 8, none⟩ = false := hfr
        have hbd : Below w1.heap.size w1 wr.drew := hb.drew
        change wpList _ _ _ _ _ wr.drew
        generalize wr.drew = wd at *
        clear ho hcell hfr hb
        have hset := own_set ho2d ((p + k) / 8) hq (bits .xor .u8 (lx[(p + k) / 8]?.getD 0) (128 / 2 ^ ((p + k) % 8)))
        have hby2 : By (lx.set ((p + k) / 8) (bits .xor .u8 (lx[(p + k) / 8]?.getD 0) (128 / 2 ^ ((p + k) % 8)))) := hbl.set _ (by rw [← List.getD_eq_getElem?_getD]; exact xor_by _ _ hxb (by
          have : (0 : Int) < 2 ^ ((p + k) % 8) := Int.pow_pos (by omega)
          exact ⟨Int.ediv_nonneg (by omega) (by omega), Int.lt_of_le_of_lt (Int.ediv_le_self _ (by omega)) (by omega)⟩))
        have hbits2 := Kp.mk (set_bits f lx n2 p k b.toNat hbl ho2d.len hl2 hbits.out hbt)
        have hb2 := hbd.setCell (p := ⟨g, (p + k) / 8, none⟩) (by simpa using hbg) (.int .u8 (bits .xor .u8 (lx[(p + k) / 8]?.getD 0) (128 / 2 ^ ((p + k) % 8))))
        have Hset := Kp.mk hset
        have Hb2 := Kp.mk hb2
        have Htr := Kp.mk (tr_yes b.toNat k hbt)
        clear hset hb2 ho2d hbd ho2'
        go_wp2_with fail
        refine ⟨⟨k + 1, _, true, by omega, by omega, by go_num, rfl, Hset.out, hby2, Hb2.out, hbits2, Htr⟩, by simp [intOf]; omega⟩
      · have hbf : b.toNat.testBit k = false := by simpa using hbt
        rw [hbf] at hbit
        have hbits2 := Kp.mk (keep_bits f lx n2 p k b.toNat hbits.out hbf)
        have Htr := Kp.mk (tr_no b.toNat k tr hbf htr.out)
        clear ho2'
        go_wp2_with fail
        go_roundw
        case rel => exact ⟨k + 1, lx, tr, by omega, by omega, by go_num, rfl, ho, hbl, hb, hbits2, Htr⟩
        case measure => simp [intOf]; omega
    · have hlx := ho.len
      have herr := Kp.mk (end_err f lx n2 p k b.toNat tr hfby hbl ho2'.len hlx (by omega) (by omega) hk hpk hbits.out htr.out (by rw [← Hf.out]; exact frm_zero kind l ⟨hk1, hk2⟩ hl))
      have rr := ho.rd
      clear ho2' hbits htr
      have hlt' : 16 ≤ k ∨ 8 * n2 ≤ p + k := by omega
      have hT := Kp.mk (T1.out.trans (hb.mono (by omega)))
      clear hlt
      by_cases h16 : k < 16
      · have j1 : (k : Int) < 16 := by omega
        have j2 : 8 * (n2 : Int) ≤ (p : Int) + k := by omega
        clear hlt'
        cases tr with
        | true =>
          go_wp2_with fail
          refine (open_any rr hbl (Nat.le_refl _)).mono ?_
          rw [herr.out]
          rintro e w5 ⟨A5, n5, c5, rfl, ho5, t5⟩
          go_wp2_with fail
          go_ret
          exact ⟨rfl, hT.out.trans (t5.mono hT.out.size)⟩
        | false =>
          go_wp2_with fail
          refine (open_any rr hbl (Nat.le_refl _)).mono ?_
          rw [herr.out]
          rintro e w5 ⟨A5, n5, c5, rfl, ho5, t5⟩
          go_wp2_with fail
          go_ret
          exact ⟨rfl, hT.out.trans (t5.mono hT.out.size)⟩
      · have j1 : ¬ ((k : Int) < 16) := by omega
        clear hlt'
        cases tr with
        | true =>
          go_wp2_with fail
          refine (open_any rr hbl (Nat.le_refl _)).mono ?_
          rw [herr.out]
          rintro e w5 ⟨A5, n5, c5, rfl, ho5, t5⟩
          go_wp2_with fail
          go_ret
          exact ⟨rfl, hT.out.trans (t5.mono hT.out.size)⟩
        | false =>
          go_wp2_with fail
          refine (open_any rr hbl (Nat.le_refl _)).mono ?_
          rw [herr.out]
          rintro e w5 ⟨A5, n5, c5, rfl, ho5, t5⟩
          go_wp2_with fail
          go_ret
          exact ⟨rfl, hT.out.trans (t5.mono hT.out.size)⟩

set_option maxRecDepth 100000 in
set_option maxHeartbeats 4000000 in
theorem turned_hi {w : World} {A : Option Addr} {n c : Nat} {l : List Int} (x y b : Int) (h : Rd .u8 w w.heap.size A 509 c l) (hl : By l) (hc : (c : Int) ≤ 140737488351232) (hn : (n : Int) ≤ c) (hm : (509 : Int) < n) (hb0 : 0 ≤ b) (hb1 : b < 65536) :
    Calls Try.prog 7 #[.slice A n c, .agg #[.int .i64 x, .int .i64 y], .int .u16 b] w fun e w' => e = .returned (.bool true) ∧ Below w.heap.size w w' := by
  have hlen := h.len
  have hN : 509 ≤ 509 := by omega
  have hk1 := (Ser.bringP_bd x 256 (by omega)).1
  have hk2 := (Ser.bringP_bd x 256 (by omega)).2
  go_enter Try.func7, Try.ntmps7
  go_wp2_with fail
  refine (works_any _).mono ?_
  rintro e w1 ⟨rfl, hb1'⟩
  have t1 : Below w.heap.size w w1 := (below_alloc w _).trans (hb1'.mono (by simp))
  have hz0 := hb1'.size
  simp at hz0
  have d0 := hb1'.cell (p := ⟨w.heap.size, 0, none⟩) (by simp)
  have d1 := hb1'.cell (p := ⟨w.heap.size, 1, none⟩) (by simp)
  simp at d0 d1
  clear hb1'
  go_wp2_with fail
  refine (Ser.bring_any x 256 _ (by omega) (by omega)).mono ?_
  rintro e w' ⟨rfl, rfl⟩
  generalize Ser.bringP x 256 = kind at *
  have r1 := h.below t1
  have hseal := Kp.mk (seal_frm kind l ⟨hk1, hk2⟩ hl (by omega))
  go_wp2_with fail
  refine (seal_any kind r1 hl (by omega) (by omega)).mono ?_
  rw [hseal.out]
  rintro e w2 ⟨A2, n2, c2, rfl, ho2, t2⟩
  have hz2 := t2.size
  have hn2 : n2 = l.length + 3 := by have := ho2.len; rw [frm_len] at this; omega
  have r2 := ho2.rd
  have hfby := frm_by kind l ⟨hk1, hk2⟩ hl
  have hopen := Kp.mk (open_frm kind l ⟨hk1, hk2⟩ hl (by omega))
  have Hn2 := Kp.mk hn2
  clear hn2
  go_wp2_with fail
  refine (open_any r2 hfby (Nat.le_refl _)).mono ?_
  rw [hopen.out]
  rintro e w3 ⟨A3, n3, c3, rfl, ho3, t3⟩
  have hz3 := t3.size
  have r3 := ho3.rd
  have ho2' := ho2.below t3 (Nat.le_refl _)
  have t13 := bstep t2 t3 hz2
  have r13 := r1.below' t13 (by omega)
  have d1' : w3.cell? ⟨w.heap.size, 1, none⟩ = some (.int .i64 y) := (t13.cell (p := ⟨w.heap.size, 1, none⟩) (by simp; omega)).trans d1
  clear ho2 ho3 r2 d0 d1
  go_wp2_with fail
  refine (eqBytes_any r3 r13 hl hl).mono ?_
  rw [show decide (l = l) = true from by simp]
  rintro e w' ⟨rfl, rfl⟩
  have i1 : (n2 : Int) ≤ 512 := by have := Hn2.out; omega
  have i2 : (3 : Int) ≤ n2 := by have := Hn2.out; omega
  have hq1 := (Ser.bringP_bd y (8 * (n2 : Int)) (by omega)).1
  have hq2 := (Ser.bringP_bd y (8 * (n2 : Int)) (by omega)).2
  go_wp2_with fail
  refine (Ser.bring_any y (8 * (n2 : Int)) _ (by omega) (by omega)).mono ?_
  rintro e w' ⟨rfl, rfl⟩
  obtain ⟨p, hp⟩ : ∃ p : Nat, Ser.bringP y (8 * (n2 : Int)) = p := ⟨(Ser.bringP y (8 * (n2 : Int))).toNat, by omega⟩
  rw [hp] at hq1 hq2
  generalize Ser.bringP y (8 * (n2 : Int)) = q at *
  subst hp
  have T13 := Kp.mk t13
  have T1 := Kp.mk t1
  have hz13 := t13.size
  clear r3 r13 r1 d1' t3 t2 t13 h
  generalize hf : frm kind l = f at *
  have Hf := Kp.mk hf
  clear hf
  go_wp2_with fail
  go_loopw [14, 15] (fun tv i wr => ∃ (k : Nat) (lx : List Int) (tr : Bool), k ≤ 16 ∧ p + k ≤ 8 * n2 ∧ i = .int .i64 k ∧ tv = .bool tr ∧ Own wr w1.heap.size (.slice A2 n2 c2) n2 lx ∧ By lx ∧ Below w1.heap.size w1 wr ∧ Kp (∀ r, r < 8 * n2 → bl lx r = Bool.xor (bl f r) (errB p b.toNat k r)) ∧ Kp (tr = true ↔ ∃ j, j < k ∧ b.toNat.testBit j = true)) (fun _ i _ => 16 - (intOf i).toNat)
  case atStart => exact ⟨0, f, false, by omega, by omega, rfl, rfl, ho2', hfby, T13.out, Kp.mk (fun r _ => by unfold errB; rw [decide_eq_false (by omega)]; simp), Kp.mk (by simp)⟩
  case round =>
    obtain ⟨k, lx, tr, hk, hpk, rfl, rfl, ho, hbl, hb, hbits, htr⟩ := hrel
    have hzr := hb.size
    by_cases hlt : k < 16 ∧ p + k < 8 * n2
    · obtain ⟨hl1, hl2⟩ := hlt
      have j1 : (k : Int) < 16 := by omega
      have j2 : (p : Int) + k < 8 * (n2 : Int) := by omega
      have hbit := bit_u16 b hb0 hb1 k
      by_cases hbt : b.toNat.testBit k = true
      · rw [hbt] at hbit
        have hq : (p + k) / 8 < n2 := by omega
        obtain ⟨g, rfl, hbg, hgw, hcell, hfr⟩ := own_cell ho ((p + k) / 8) hq
        have hxb := hbl.getD ((p + k) / 8)
        have f1 : (0 : Int) ≤ (p : Int) + k := by omega
        have s1 : IntKind.i64.wrap ((p : Int) + k) = (p : Int) + k := IntWalk.i64_in _ (by omega)
        have s2 : IntKind.i64.wrap (((p : Int) + k).tdiv 8) = ((p : Int) + k) / 8 := IntWalk.i64_quo _ _ (by omega)
        have s3 : ((p : Int) + k).tmod 8 = ((p : Int) + k) % 8 := IntWalk.rem_in _ _ f1
        have s4 : ((p : Int) + k) / 8 < n2 := by omega
        have s5 : (0 : Int) ≤ ((p : Int) + k) / 8 := by omega
        have s6 : (((p : Int) + k) / 8).toNat = (p + k) / 8 := by omega
        have s7 : (0 : Int) ≤ ((p : Int) + k) % 8 := by omega
        have s8 : IntKind.i64.wrap (((p : Int) + k) % 8) = ((p : Int) + k) % 8 := IntWalk.i64_in _ (by omega)
        go_wp2_with fail
        go_still_tail 19, (by kernel_rfl)
        have ho2d : Own wr.drew w1.heap.size (.slice (some ⟨g, 0, none⟩) n2 c2) n2 lx := ho
        have hcd : wr.drew.cell? ⟨g, (p + k) / 8, none⟩ = some (.int .u8 (lx.getD ((p + k) / 8) 0)) := hcell
        have hfd : wr.drew.frozen? ⟨g, (p + k) / 8, none⟩ = false := hfr
        have hbd : Below w1.heap.size w1 wr.drew := hb.drew
        change wpList _ _ _ _ _ wr.drew
        generalize wr.drew = wd at *
        clear ho hcell hfr hb
        have hset := own_set ho2d ((p + k) / 8) hq (bits .xor .u8 (lx[(p + k) / 8]?.getD 0) (128 / 2 ^ ((p + k) % 8)))
        have hby2 : By (lx.set ((p + k) / 8) (bits .xor .u8 (lx[(p + k) / 8]?.getD 0) (128 / 2 ^ ((p + k) % 8)))) := hbl.set _ (by rw [← List.getD_eq_getElem?_getD]; exact xor_by _ _ hxb (by
          have : (0 : Int) < 2 ^ ((p + k) % 8) := Int.pow_pos (by omega)
          exact ⟨Int.ediv_nonneg (by omega) (by omega), Int.lt_of_le_of_lt (Int.ediv_le_self _ (by omega)) (by omega)⟩))
        have hbits2 := Kp.mk (set_bits f lx n2 p k b.toNat hbl ho2d.len hl2 hbits.out hbt)
        have hb2 := hbd.setCell (p := ⟨g, (p + k) / 8, none⟩) (by simpa using hbg) (.int .u8 (bits .xor .u8 (lx[(p + k) / 8]?.getD 0) (128 / 2 ^ ((p + k) % 8))))
        have Hset := Kp.mk hset
        have Hb2 := Kp.mk hb2
        have Htr := Kp.mk (tr_yes b.toNat k hbt)
        clear hset hb2 ho2d hbd ho2'
        go_wp2_with fail
        refine ⟨⟨k + 1, _, true, by omega, by omega, by go_num, rfl, Hset.out, hby2, Hb2.out, hbits2, Htr⟩, by simp [intOf]; omega⟩
      · have hbf : b.toNat.testBit k = false := by simpa using hbt
        rw [hbf] at hbit
        have hbits2 := Kp.mk (keep_bits f lx n2 p k b.toNat hbits.out hbf)
        have Htr := Kp.mk (tr_no b.toNat k tr hbf htr.out)
        clear ho2'
        go_wp2_with fail
        go_roundw
        case rel => exact ⟨k + 1, lx, tr, by omega, by omega, by go_num, rfl, ho, hbl, hb, hbits2, Htr⟩
        case measure => simp [intOf]; omega
    · have hlx := ho.len
      have herr := Kp.mk (end_err f lx n2 p k b.toNat tr hfby hbl ho2'.len hlx (by omega) (by omega) hk hpk hbits.out htr.out (by rw [← Hf.out]; exact frm_zero kind l ⟨hk1, hk2⟩ hl))
      have rr := ho.rd
      clear ho2' hbits htr
      have hlt' : 16 ≤ k ∨ 8 * n2 ≤ p + k := by omega
      have hT := Kp.mk (T1.out.trans (hb.mono (by omega)))
      clear hlt
      by_cases h16 : k < 16
      · have j1 : (k : Int) < 16 := by omega
        have j2 : 8 * (n2 : Int) ≤ (p : Int) + k := by omega
        clear hlt'
        cases tr with
        | true =>
          go_wp2_with fail
          refine (open_any rr hbl (Nat.le_refl _)).mono ?_
          rw [herr.out]
          rintro e w5 ⟨A5, n5, c5, rfl, ho5, t5⟩
          go_wp2_with fail
          go_ret
          exact ⟨rfl, hT.out.trans (t5.mono hT.out.size)⟩
        | false =>
          go_wp2_with fail
          refine (open_any rr hbl (Nat.le_refl _)).mono ?_
          rw [herr.out]
          rintro e w5 ⟨A5, n5, c5, rfl, ho5, t5⟩
          go_wp2_with fail
          go_ret
          exact ⟨rfl, hT.out.trans (t5.mono hT.out.size)⟩
      · have j1 : ¬ ((k : Int) < 16) := by omega
        clear hlt'
        cases tr with
        | true =>
          go_wp2_with fail
          refine (open_any rr hbl (Nat.le_refl _)).mono ?_
          rw [herr.out]
          rintro e w5 ⟨A5, n5, c5, rfl, ho5, t5⟩
          go_wp2_with fail
          go_ret
          exact ⟨rfl, hT.out.trans (t5.mono hT.out.size)⟩
        | false =>
          go_wp2_with fail
          refine (open_any rr hbl (Nat.le_refl _)).mono ?_
          rw [herr.out]
          rintro e w5 ⟨A5, n5, c5, rfl, ho5, t5⟩
          go_wp2_with fail
          go_ret
          exact ⟨rfl, hT.out.trans (t5.mono hT.out.size)⟩

theorem OctetTurned_walk (A0 : Option Addr) (n0 c0 : Nat) (z0 : List Int) (z1 : List Int) (b : Int) (w : World) (w0 : Frame.IsRow .u8 w A0 n0 c0 z0) (re0 : c0 * 1 ≤ 140737488351232) (lz1 : z1.length = 2) (w1 : ∀ z ∈ z1, (Lit.int .i64 z).wf = true) (w2 : (Lit.int .u16 b).wf = true) :
    Calls Try.prog 7 #[.slice A0 n0 c0, .agg (z1.map (Value.int .i64)).toArray, .int .u16 b] w fun e w' => e = .returned (.bool true) ∧ Below w.heap.size w w' := by
  obtain ⟨x, y, rfl⟩ : ∃ x y, z1 = [x, y] := by
    match z1, lz1 with
    | [x, y], _ => exact ⟨x, y, rfl⟩
  have h0 := Rd.of_row w0
  have hb := By.of_row w0
  have le0 := h0.le
  have hb1 := Ser.wf_u16 w2
  by_cases hm : n0 ≤ 509
  · exact turned_lo x y b h0 hb (by omega) (by omega) (by omega) hb1.1 hb1.2
  · exact turned_hi (n := n0) x y b (h0.pre 509 (by omega)) (hb.take _) (by omega) (by omega) (by omega) hb1.1 hb1.2
end Go.Proofs.Ytefohkhipnikhaa.Oct
