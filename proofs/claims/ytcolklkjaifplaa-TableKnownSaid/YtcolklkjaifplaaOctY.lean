/- Plain facts and small laws of octet that no statement is named in: By, Own, what Open answers of what is sealed. -/
import Derived.Test.YtcolklkjaifplaaOctH
import Derived.Test.YtcolklkjaifplaaOctCrc
import Derived.Test.YtcolklkjaifplaaBring
namespace Go.Proofs.Ytcolklkjaifplaa.Oct
open Go.RowKit
set_option linter.unusedVariables false

theorem byOf {l : List Int} (h : l.all (fun z => decide (0 ≤ z ∧ z < 256)) = true) : By l := fun z hz => by simpa using List.all_eq_true.1 h z hz
theorem alloc_size (w : World) (o : Obj) : (w.alloc o).heap.size = w.heap.size + 1 := by simp
theorem Own.rdIn {w w' : World} {b : Nat} {A : Option Addr} {n c : Nat} {l : List Int} (h : Own w b (.slice A n c) n l) (hb : Below w.heap.size w w') : Rd .u8 w' w.heap.size A n c l := h.rd.below hb

theorem Rd.pre {k : IntKind} {w : World} {B n c : Nat} {A : Option Addr} {l : List Int} (h : Rd k w B A n c l) (m : Nat) (hm : m ≤ n) : Rd k w B A m c (l.take m) := by
  refine ⟨by rw [List.length_take]; have := h.len; omega, by have := h.le; omega, h.cap, h.2.2.2.1, fun h0 => ?_⟩
  obtain ⟨b, off, e, hb, hc⟩ := h.at_ (by omega)
  refine ⟨b, off, e, hb, fun j hj => ?_⟩
  rw [hc j (by omega), List.getD_eq_getElem?_getD, List.getD_eq_getElem?_getD, List.getElem?_take_of_lt hj]

theorem own_cell {w : World} {base : Nat} {A : Option Addr} {n c : Nat} {l : List Int} (h : Own w base (.slice A n c) n l) (j : Nat) (hj : j < n) :
    ∃ g, A = some ⟨g, 0, none⟩ ∧ base ≤ g ∧ g < w.heap.size ∧ w.cell? ⟨g, j, none⟩ = some (.int .u8 (l.getD j 0)) ∧ w.frozen? ⟨g, j, none⟩ = false := by
  obtain ⟨b, off, e, hb, hc⟩ := h.rd.at_ (by omega)
  have hcell := hc j hj
  rcases h.2 with ⟨h2, h3⟩ | ⟨g, cap, cur, hv, hbg, hg, _⟩
  · omega
  · simp only [Value.slice.injEq] at hv
    have hA := hv.1
    rw [e] at hA
    simp at hA
    obtain ⟨rfl, rfl⟩ := hA
    refine ⟨b, e, hbg, hb, by rw [Nat.zero_add] at hcell; exact hcell, ?_⟩
    simp [World.frozen?, hg]

theorem own_set {w : World} {base : Nat} {g n c : Nat} {l : List Int} (h : Own w base (.slice (some ⟨g, 0, none⟩) n c) n l) (j : Nat) (hj : j < n) (x : Int) :
    Own (w.setCell ⟨g, j, none⟩ (.int .u8 x)) base (.slice (some ⟨g, 0, none⟩) n c) n (l.set j x) := by
  have hl := h.len
  rcases h.2 with ⟨h2, h3⟩ | ⟨g', cap, cur, hv, hbg, hg, hnc, hcm, hcs, htake⟩
  · omega
  · simp only [Value.slice.injEq, Option.some.injEq, Addr.mk.injEq, and_true, true_and] at hv
    obtain ⟨rfl, rfl⟩ := hv
    refine ⟨by simp [hl], .inr ⟨g, c, cur.setIfInBounds j (.int .u8 x), rfl, hbg, ?_, hnc, hcm, by simpa using hcs, ?_⟩⟩
    · simp [World.setCell, Array.getElem?_modify, hg]
    · rw [List.map_set, ← htake, Array.toList_setIfInBounds, List.take_set]

theorem By.set {l : List Int} (h : By l) (j : Nat) {x : Int} (hx : 0 ≤ x ∧ x < 256) : By (l.set j x) := fun z hz => by
  rcases List.mem_or_eq_of_mem_set hz with h1 | rfl
  · exact h z h1
  · exact hx
theorem xor_by (x y : Int) (hx : 0 ≤ x ∧ x < 256) (hy : 0 ≤ y ∧ y < 256) : 0 ≤ bits .xor .u8 x y ∧ bits .xor .u8 x y < 256 := by
  rw [u8_xor x y hx.1 hx.2 hy.1 hy.2]
  have : x.toNat ^^^ y.toNat < 2 ^ 8 := Nat.xor_lt_two_pow (by omega) (by omega)
  omega

theorem openP_by (l : List Int) (h : By l) : By (openP l).2.1 := by
  unfold openP
  split
  · exact By.nil
  · split
    · exact By.nil
    · split
      · exact (h.drop _).take _
      · exact By.nil

theorem seal_ok (kind : Int) (l : List Int) (hk : 0 ≤ kind ∧ kind < 256) (hn : l.length ≤ 509) : sealP kind l = (dg 1 kind ++ l ++ dg 2 (sumP (dg 1 kind ++ l)), 0) := by
  unfold sealP; rw [if_pos hk, if_neg (by omega)]
theorem dg_one (k : Int) (hk : 0 ≤ k ∧ k < 256) : dg 1 k = [k] := by simp [dg]; omega
theorem dg_two (s : Int) (hs : 0 ≤ s ∧ s < 65536) : dg 2 s = [s / 256, s % 256] := by simp [dg]; omega
/-- The frame of a kind and a body. -/
def frm (kind : Int) (l : List Int) : List Int := (kind :: l) ++ [sumP (kind :: l) / 256, sumP (kind :: l) % 256]
theorem seal_frm (kind : Int) (l : List Int) (hk : 0 ≤ kind ∧ kind < 256) (hl : By l) (hn : l.length ≤ 509) : sealP kind l = (frm kind l, 0) := by
  have hby : By (kind :: l) := By.cons hk hl
  rw [seal_ok kind l hk hn, dg_one kind hk]
  show ([kind] ++ l ++ dg 2 (sumP ([kind] ++ l)), 0) = _
  rw [show [kind] ++ l = kind :: l from rfl, dg_two _ (sumP_bd _ hby)]
  rfl
theorem frm_by (kind : Int) (l : List Int) (hk : 0 ≤ kind ∧ kind < 256) (hl : By l) : By (frm kind l) := by
  have hby : By (kind :: l) := By.cons hk hl
  have hs := sumP_bd _ hby
  exact hby.append (By.cons (by omega) (By.cons (by omega) By.nil))
theorem frm_len (kind : Int) (l : List Int) : (frm kind l).length = l.length + 3 := by simp [frm]
theorem frm_zero (kind : Int) (l : List Int) (hk : 0 ≤ kind ∧ kind < 256) (hl : By l) : crcN 65535 (frm kind l) = 0 := by
  have hby : By (kind :: l) := By.cons hk hl
  have hs := sumP_bd _ hby
  refine (residue (kind :: l) _ _ hby (by omega) (by omega)).2 ?_
  have : sumP (kind :: l) = (crcN 65535 (kind :: l) : Nat) := rfl
  omega
/-- Open's error of what is as long as a frame. -/
theorem open_err (l : List Int) (hl : By l) (h3 : 3 ≤ l.length) (h5 : l.length ≤ 512) : (openP l).2.2 = if crcN 65535 l = 0 then 0 else 30 := by
  have hn := num_two l l.length hl rfl (by omega)
  have e : l = l.take (l.length - 2) ++ [l.getD (l.length - 2) 0, l.getD (l.length - 1) 0] := by
    have e1 : l.drop (l.length - 2) = [l.getD (l.length - 2) 0, l.getD (l.length - 1) 0] := by
      rw [List.drop_eq_getElem_cons (by omega), show l.length - 2 + 1 = l.length - 1 from by omega, List.drop_eq_getElem_cons (by omega), show l.length - 1 + 1 = l.length from by omega, List.drop_eq_nil_of_le (by omega)]
      rw [List.getD_eq_getElem?_getD, List.getD_eq_getElem?_getD, List.getElem?_eq_getElem (by omega), List.getElem?_eq_getElem (by omega)]; rfl
    rw [← e1, List.take_append_drop]
  have b1 := hl.getD (l.length - 2)
  have b2 := hl.getD (l.length - 1)
  have hr := residue (l.take (l.length - 2)) _ _ (hl.take _) b1 b2
  rw [← e] at hr
  unfold openP
  rw [if_neg (by omega), if_neg (by omega), hn]
  have hs : sumP (l.take (l.length - 2)) = (crcN 65535 (l.take (l.length - 2)) : Nat) := rfl
  by_cases h : crcN 65535 l = 0
  · have := hr.1 h
    rw [if_pos h, if_pos (by omega)]
  · rw [if_neg h, if_neg (fun e2 => h (hr.2 (by omega)))]
theorem open_frm (kind : Int) (l : List Int) (hk : 0 ≤ kind ∧ kind < 256) (hl : By l) (hn : l.length ≤ 509) : openP (frm kind l) = (kind, l, 0) := by
  have hby := frm_by kind l hk hl
  have hlen := frm_len kind l
  have herr := open_err (frm kind l) hby (by omega) (by omega)
  rw [if_pos (frm_zero kind l hk hl)] at herr
  have hn1 := num_one (frm kind l) hby (by omega)
  unfold openP at herr ⊢
  rw [if_neg (by omega), if_neg (by omega)] at herr ⊢
  split at herr
  · rename_i h
    rw [if_pos h, hn1, hlen]
    have e1 : (frm kind l).getD 0 0 = kind := rfl
    have e2 : ((frm kind l).drop 1).take (l.length + 3 - 3) = l := by
      show (l ++ [sumP (kind :: l) / 256, sumP (kind :: l) % 256]).take (l.length + 3 - 3) = l
      rw [show l.length + 3 - 3 = l.length from by omega, List.take_left']
      rfl
    rw [e1, e2]
  · simp at herr

theorem flip_u8 (v : Int) (hv : 0 ≤ v ∧ v < 256) (r : Nat) (hr : r < 8) : bits .xor .u8 v (128 / 2 ^ r) = ((v.toNat ^^^ 2 ^ (7 - r) : Nat) : Int) := by
  have e : (128 : Int) / 2 ^ r = ((2 ^ (7 - r) : Nat) : Int) := by
    have : r = 0 ∨ r = 1 ∨ r = 2 ∨ r = 3 ∨ r = 4 ∨ r = 5 ∨ r = 6 ∨ r = 7 := by omega
    rcases this with rfl | rfl | rfl | rfl | rfl | rfl | rfl | rfl <;> rfl
  have h2 : 2 ^ (7 - r) < 256 := Nat.lt_of_lt_of_le (Nat.pow_lt_pow_right (by omega) (show 7 - r < 8 by omega)) (Nat.le_refl _)
  rw [e, u8_xor v _ hv.1 hv.2 (Int.natCast_nonneg _) (Int.ofNat_lt.2 h2), Int.toNat_natCast]
theorem set_bits (f lx : List Int) (n2 p k b : Nat) (hbl : By lx) (hl : lx.length = n2) (hpk : p + k < 8 * n2) (hbits : ∀ r, r < 8 * n2 → bl lx r = Bool.xor (bl f r) (errB p b k r)) (hb : b.testBit k = true) :
    ∀ r, r < 8 * n2 → bl (lx.set ((p + k) / 8) (bits .xor .u8 (lx[(p + k) / 8]?.getD 0) (128 / 2 ^ ((p + k) % 8)))) r = Bool.xor (bl f r) (errB p b (k + 1) r) := by
  intro r hr
  rw [← List.getD_eq_getElem?_getD, flip_u8 _ (hbl.getD _) _ (by omega), flip_bits lx n2 (p + k) hbl hl hpk r hr, hbits r hr, errB_succ, hb]
  simp
theorem keep_bits (f lx : List Int) (n2 p k b : Nat) (hbits : ∀ r, r < 8 * n2 → bl lx r = Bool.xor (bl f r) (errB p b k r)) (hb : b.testBit k = false) :
    ∀ r, r < 8 * n2 → bl lx r = Bool.xor (bl f r) (errB p b (k + 1) r) := by
  intro r hr
  rw [hbits r hr, errB_succ, hb]
  simp
theorem tr_yes (b k : Nat) (h : b.testBit k = true) : (true = true ↔ ∃ j, j < k + 1 ∧ b.testBit j = true) := ⟨fun _ => ⟨k, by omega, h⟩, fun _ => rfl⟩
theorem tr_no (b k : Nat) (tr : Bool) (h : b.testBit k = false) (ht : tr = true ↔ ∃ j, j < k ∧ b.testBit j = true) : (tr = true ↔ ∃ j, j < k + 1 ∧ b.testBit j = true) := by
  rw [ht]
  constructor
  · rintro ⟨j, hj, e⟩; exact ⟨j, by omega, e⟩
  · rintro ⟨j, hj, e⟩
    by_cases hjk : j = k
    · subst hjk; rw [h] at e; simp at e
    · exact ⟨j, by omega, e⟩
theorem end_err (f lx : List Int) (n2 p k b : Nat) (tr : Bool) (hf : By f) (hbl : By lx) (hfl : f.length = n2) (hl : lx.length = n2) (h3 : 3 ≤ n2) (h5 : n2 ≤ 512) (hk : k ≤ 16) (hpk : p + k ≤ 8 * n2)
    (hbits : ∀ r, r < 8 * n2 → bl lx r = Bool.xor (bl f r) (errB p b k r)) (ht : tr = true ↔ ∃ j, j < k ∧ b.testBit j = true) (h0 : crcN 65535 f = 0) : (openP lx).2.2 = if tr then 30 else 0 := by
  rw [open_err lx hbl (by omega) (by omega)]
  have hb := burst f lx n2 p b k hf hbl hfl hl hk hpk hbits h0
  cases tr with
  | true =>
    obtain ⟨j, hj, e⟩ := ht.1 rfl
    rw [if_neg (fun h => by have := hb.1 h j hj; rw [e] at this; simp at this)]; rfl
  | false =>
    rw [if_pos (hb.2 (fun j hj => by
      cases he : b.testBit j with
      | false => rfl
      | true => exact absurd (ht.2 ⟨j, hj, he⟩) (by simp)))]; rfl
theorem bit_u16 (b : Int) (h0 : 0 ≤ b) (h1 : b < 65536) (k : Nat) : (bits .and .u16 (b / 2 ^ k) 1 == 1) = b.toNat.testBit k := by
  have e : b / 2 ^ k = ((b.toNat / 2 ^ k : Nat) : Int) := by
    have : b = (b.toNat : Int) := by omega
    conv => lhs; rw [this]
    simp
  have hlt : b.toNat / 2 ^ k < 65536 := Nat.lt_of_le_of_lt (Nat.div_le_self _ _) (by omega)
  rw [e, show (1 : Int) = ((1 : Nat) : Int) from rfl, u16_and_nat _ _ hlt (by omega), nat_mask1, Nat.testBit_eq_decide_div_mod_eq]
  rw [Bool.eq_iff_iff, beq_iff_eq, decide_eq_true_eq]
  omega
end Go.Proofs.Ytcolklkjaifplaa.Oct
