/- Contracts of layer 1: Text and Seal, and the document's. Contracts of layer 1: Seal, and the document's. Contracts of layer 1: Open, and the document's. -/
import Derived.Test.YteambkehdbffmaaGreatOctE
import Derived.Deep.RegionWith
import Derived.Deep.RegionHeld3
namespace Go.Proofs.YteambkehdbffmaaGreat.Oct
open Go.RowKit
set_option linter.unusedVariables false

def textP (l s : List Int) : List Int × Int := if 65535 < s.length then ([], 5) else (l ++ dg 2 s.length ++ s, 0)
theorem textP_by (l s : List Int) (h : By l) (hs : By s) : By (textP l s).1 := by
  unfold textP
  split
  · exact By.nil
  · exact (h.append (dg_by _ _)).append hs

set_option maxRecDepth 100000 in
set_option maxHeartbeats 400000 in
theorem text_any {w : World} {B B2 : Nat} {A A2 : Option Addr} {n c m c2 : Nat} {l s : List Int} (h : Rd .u8 w B A n c l) (h2 : Rd .u8 w B2 A2 m c2 s) (hB : B ≤ w.heap.size) (hB2 : B2 ≤ w.heap.size) (hs : n + m ≤ 140737488355000) :
    Calls Tryz.prog 69 #[.slice A n c, .slice A2 m c2] w (PairOf (textP l s).1 (textP l s).2 w) := by
  have hlen2 := h2.len
  by_cases hm : 65535 < m
  · have hp := Kp.mk (show textP l s = ([], 5) by unfold textP; rw [hlen2, if_pos hm])
    go_enter Tryz.func69, Tryz.ntmps69
    go_wp2_with fail
    rw [hp.out]
    go_ret2
    exact PairOf.nil 5 w (Below.refl _ _)
  · have hp := Kp.mk (show textP l s = (l ++ dg 2 m ++ s, 0) by unfold textP; rw [hlen2, if_neg hm])
    go_enter Tryz.func69, Tryz.ntmps69
    go_wp2_with fail
    refine (copyOf_any (2 + m) _ (by simp) h hB (by omega)).mono ?_
    rintro e w1 ⟨A1, n1, c1, rfl, ho1, hb1⟩
    have hn1 : n1 = n := by have := ho1.len; have := h.len; omega
    subst hn1
    have hz1 := hb1.size
    go_wp2_with fail
    refine (digits_any 2 m ho1 hz1 (by omega) (by omega) (by omega) (by omega)).mono ?_
    rintro e w2 ⟨A3, n3, c3, rfl, ho3, hb3⟩
    have hn3 : n3 = n1 + 2 := by have g1 := ho3.len; have g2 := ho1.len; rw [List.length_append, dg_len] at g1; omega
    subst hn3
    have hb4 := hb1.trans hb3
    have hz4 := hb4.size
    have hr4 := h2.below' hb4 hB2
    go_wp2_with (at_builtin; refine wpList_append8 rfl (.tmp 18) (.tmp 19) rfl rfl ho3 rfl hr4 (by omega) hz4 ?_; intro A5 c5 w5 ho5 hb5)
    rw [hp.out]
    go_ret2
    exact ⟨A5, _, c5, rfl, ho5, hb4.trans hb5⟩

theorem putP_two (l : List Int) (x : Int) (h0 : 0 ≤ x) (h : x < 65536) : putP l 2 [x] = (l ++ dg 2 x, 0) := by
  unfold putP
  rw [if_pos (by omega)]
  have : fitsP x 2 = true := by unfold fitsP; exact decide_eq_true ⟨h0, by simpa using h⟩
  simp [this]

set_option maxRecDepth 100000 in
set_option maxHeartbeats 400000 in
theorem refText_any {w : World} {B B2 : Nat} {A A2 : Option Addr} {n c m c2 : Nat} {l s : List Int} (h : Rd .u8 w B A n c l) (h2 : Rd .u8 w B2 A2 m c2 s) (hB : B ≤ w.heap.size) (hB2 : B2 ≤ w.heap.size) (hs : n + m ≤ 140737488355000) :
    Calls Tryz.prog 32 #[.slice A n c, .slice A2 m c2] w (PairOf (textP l s).1 (textP l s).2 w) := by
  have hlen2 := h2.len
  by_cases hm : 65535 < m
  · have hp := Kp.mk (show textP l s = ([], 5) by unfold textP; rw [hlen2, if_pos hm])
    go_enter Tryz.func32, Tryz.ntmps32
    go_wp2_with fail
    rw [hp.out]
    go_ret2
    exact PairOf.nil 5 w (Below.refl _ _)
  · have hp := Kp.mk (show textP l s = (l ++ dg 2 m ++ s, 0) by unfold textP; rw [hlen2, if_neg hm])
    have hp2 := Kp.mk (putP_two l m (by omega) (by omega))
    have hm' : (m : Int) ≤ 65535 := by omega
    have Hs := Kp.mk hs
    clear hm hs
    go_enter Tryz.func32, Tryz.ntmps32
    go_wp2_with fail
    have hr1 := rd_lit .i64 w 3 [(m : Int)] (by simp [maxLen]) (w.heap.size + 1) (by omega)
    have hba := (Below.refl w.heap.size w).alloc (Nat.le_refl _) (.cells ([(m : Int)].map (Value.int .i64)).toArray 3)
    have hr0 := h.below' hba hB
    refine (refPut_any 2 hr0 hr1 (by simp; omega) (by simp) (by have := Hs.out; simp; omega)).mono ?_
    rw [hp2.out]
    rintro e w1 ⟨A1, n1, c1, rfl, ho1, hb1⟩
    have hn1 : n1 = n + 2 := by have g1 := ho1.len; have g2 := h.len; rw [List.length_append, dg_len] at g1; omega
    subst hn1
    have hb2 : Below w.heap.size w w1 := hba.trans (hb1.mono (by simp))
    have hz1 := hb2.size
    have ho2 := ho1.lower (b := w.heap.size) (by simp)
    have hr4 := h2.below' hb2 hB2
    go_wp2_with (at_builtin; refine wpList_append8 rfl (.tmp 19) (.tmp 20) rfl rfl ho2 rfl hr4 (by have := Hs.out; omega) hz1 ?_; intro A5 c5 w5 ho5 hb5)
    rw [hp.out]
    go_ret2
    exact ⟨A5, _, c5, rfl, ho5, hb2.trans hb5⟩
end Go.Proofs.YteambkehdbffmaaGreat.Oct

namespace Go.Proofs.YteambkehdbffmaaGreat.Oct
open Go.RowKit
set_option linter.unusedVariables false

def sealP (kind : Int) (l : List Int) : List Int × Int :=
  if 0 ≤ kind ∧ kind < 256 then (if 512 < l.length + 3 then ([], 5) else (dg 1 kind ++ l ++ dg 2 (sumP (dg 1 kind ++ l)), 0)) else ([], 2)
theorem sealP_by (kind : Int) (l : List Int) (h : By l) : By (sealP kind l).1 := by
  unfold sealP
  split
  · split
    · exact By.nil
    · exact ((dg_by _ _).append h).append (dg_by _ _)
  · exact By.nil

set_option maxRecDepth 100000 in
set_option maxHeartbeats 400000 in
theorem seal_any {w : World} {B : Nat} {A : Option Addr} {n c : Nat} {l : List Int} (kind : Int) (h : Rd .u8 w B A n c l) (hl : By l) (hB : B ≤ w.heap.size) (hn : n ≤ 140737488355000) :
    Calls Tryz.prog 88 #[.int .i64 kind, .slice A n c] w (PairOf (sealP kind l).1 (sealP kind l).2 w) := by
  have hlen := h.len
  have hf1 : fitsP kind 1 = decide (0 ≤ kind ∧ kind < 256) := by unfold fitsP; rfl
  by_cases hk : 0 ≤ kind ∧ kind < 256
  · have hf : fitsP kind 1 = true := by rw [hf1]; exact decide_eq_true hk
    have Hf := Kp.mk hf
    by_cases hm : 512 < n + 3
    · have hp := Kp.mk (show sealP kind l = ([], 5) by unfold sealP; rw [if_pos hk, hlen, if_pos hm])
      have hm' : (509 : Int) < n := by omega
      clear hf hf1 hk hlen hm
      go_enter Tryz.func88, Tryz.ntmps88
      go_wp2_with fail
      refine (fits_any kind 1 (by omega) _).mono ?_
      rw [Hf.out]
      rintro e w' ⟨rfl, rfl⟩
      go_wp2_with fail
      rw [hp.out]
      go_ret2
      exact PairOf.nil 5 w (Below.refl _ _)
    · have hp := Kp.mk (show sealP kind l = (dg 1 kind ++ l ++ dg 2 (sumP (dg 1 kind ++ l)), 0) by unfold sealP; rw [if_pos hk, hlen, if_neg hm])
      have hm' : (n : Int) ≤ 509 := by omega
      obtain ⟨hk0, hk1⟩ := hk
      have hmk := run_make8 (n + 3) (by omega) (1 + (n : Int) + 2) (by omega)
      have ho0 := own_made w w.heap.size (n + 3) (Nat.le_refl _) (by omega)
      clear hf hf1 hlen hm
      go_enter Tryz.func88, Tryz.ntmps88
      go_wp2_with fail
      refine (fits_any kind 1 (by omega) _).mono ?_
      rw [Hf.out]
      rintro e w' ⟨rfl, rfl⟩
      go_wp2_with fail
      have hba := (Below.refl w.heap.size w).alloc (Nat.le_refl _) (.cells (madeCells (Value.int .u8 0).cells (n + 3)) 5)
      refine (digits_any 1 kind ho0 (by simp) (by omega) (by omega) hk0 (by omega)).mono ?_
      rintro e w1 ⟨A1, n1, c1, rfl, ho1, hb1⟩
      have hn1 : n1 = 1 := by have g1 := ho1.len; rw [List.length_append, dg_len] at g1; simpa using g1.symm
      subst hn1
      clear hmk ho0
      have hb1' := hba.trans hb1
      have hz1 := hb1'.size
      have hr1 := h.below' hb1' hB
      go_wp2_with (at_builtin; refine wpList_append8 rfl (.tmp 21) (.tmp 22) rfl rfl ho1 rfl hr1 (by omega) hz1 ?_; intro A5 c5 w5 ho5 hb5)
      have hby : By (dg 1 kind ++ l) := (dg_by _ _).append hl
      refine (sum_any ho5.rd hby).mono ?_
      rintro e w' ⟨rfl, rfl⟩
      have hb6 := hb1'.trans hb5
      have hz6 := hb6.size
      have hs := sumP_bd _ hby
      go_wp2_with fail
      refine (digits_any 2 _ ho5 hz6 (by omega) (by omega) hs.1 (by omega)).mono ?_
      rintro e w6 ⟨A6, n6, c6, rfl, ho6, hb7⟩
      go_wp2_with fail
      rw [hp.out]
      go_ret2
      exact ⟨A6, n6, c6, rfl, ho6, hb6.trans hb7⟩
  · have hf : fitsP kind 1 = false := by rw [hf1]; exact decide_eq_false hk
    have Hf := Kp.mk hf
    have hp := Kp.mk (show sealP kind l = ([], 2) by unfold sealP; rw [if_neg hk])
    clear hf hf1 hlen hk
    go_enter Tryz.func88, Tryz.ntmps88
    go_wp2_with fail
    refine (fits_any kind 1 (by omega) _).mono ?_
    rw [Hf.out]
    rintro e w' ⟨rfl, rfl⟩
    go_wp2_with fail
    rw [hp.out]
    go_ret2
    exact PairOf.nil 2 w (Below.refl _ _)

set_option maxRecDepth 100000 in
set_option maxHeartbeats 400000 in
theorem refSeal_any {w : World} {B : Nat} {A : Option Addr} {n c : Nat} {l : List Int} (kind : Int) (h : Rd .u8 w B A n c l) (hl : By l) (hB : B ≤ w.heap.size) (hn : n ≤ 140737488355000) :
    Calls Tryz.prog 70 #[.int .i64 kind, .slice A n c] w (PairOf (sealP kind l).1 (sealP kind l).2 w) := by
  have hlen := h.len
  by_cases hk : 0 ≤ kind ∧ kind < 256
  · by_cases hm : 512 < n + 3
    · have hp := Kp.mk (show sealP kind l = ([], 5) by unfold sealP; rw [if_pos hk, hlen, if_pos hm])
      have hm' : (509 : Int) < n := by omega
      have hN : (n : Int) ≤ 140737488355000 := by omega
      obtain ⟨hk0, hk1⟩ := hk
      have hk2 : kind ≤ 255 := by omega
      clear hlen hm hn hk1
      go_enter Tryz.func70, Tryz.ntmps70
      go_wp2_with fail
      rw [hp.out]
      go_ret2
      exact PairOf.nil 5 w (Below.refl _ _)
    · have hp := Kp.mk (show sealP kind l = (dg 1 kind ++ l ++ dg 2 (sumP (dg 1 kind ++ l)), 0) by unfold sealP; rw [if_pos hk, hlen, if_neg hm])
      have hm' : (n : Int) ≤ 509 := by omega
      obtain ⟨hk0, hk1⟩ := hk
      have hk2 : kind ≤ 255 := by omega
      have hdg : dg 1 kind = [kind] := by simp [dg]; omega
      have hby : By (dg 1 kind ++ l) := (dg_by _ _).append hl
      have hs := sumP_bd _ hby
      have hp2 := Kp.mk (putP_two (dg 1 kind ++ l) _ hs.1 hs.2)
      rw [hdg] at hp hp2 hby hs
      generalize hq : sumP ([kind] ++ l) = q at *
      have hq' := Kp.mk hq
      obtain ⟨hs1, hs2⟩ := hs
      clear hlen hm hn hk1 hdg hq
      have ho0 := own_lit w [kind] w.heap.size (Nat.le_refl _) (by simp [maxLen])
      have hba := (Below.refl w.heap.size w).alloc (Nat.le_refl _) (.cells ([kind].map (Value.int .u8)).toArray 5)
      have hr0 := h.below' hba hB
      go_enter Tryz.func70, Tryz.ntmps70
      go_wp2_with (at_builtin; refine wpList_append8 rfl (.tmp 19) (.tmp 20) rfl rfl ho0 rfl hr0 (by simp; omega) (by simp) ?_; intro A1 c1 w1 ho1 hb1)
      refine (refSum_any ho1.rd hby).mono ?_
      rintro e w' ⟨rfl, rfl⟩
      have hb2 := hba.trans hb1
      have hz2 := hb2.size
      rw [hq'.out]
      go_wp2_with fail
      have hba3 := (Below.refl w1.heap.size w1).alloc (Nat.le_refl _) (.cells ([q].map (Value.int .i64)).toArray 3)
      have hr3 := (ho1.alloc (.cells ([q].map (Value.int .i64)).toArray 3)).rd
      have hr4 := rd_lit .i64 w1 3 [q] (by simp [maxLen]) (w1.heap.size + 1) (by omega)
      refine (refPut_any 2 hr3 hr4 (by simp) (by simp) (by simp; omega)).mono ?_
      rw [hp2.out]
      rintro e w6 ⟨A6, n6, c6, rfl, ho6, hb7⟩
      go_wp2_with fail
      rw [hp.out]
      go_ret2
      exact ⟨A6, n6, c6, rfl, ho6.lower (by simp; omega), (hb2.alloc (by omega) _).trans (hb7.mono (by simp; omega))⟩
  · have hp := Kp.mk (show sealP kind l = ([], 2) by unfold sealP; rw [if_neg hk])
    clear hlen hn
    by_cases h0 : kind < 0
    · clear hk
      go_enter Tryz.func70, Tryz.ntmps70
      go_wp2_with fail
      rw [hp.out]
      go_ret2
      exact PairOf.nil 2 w (Below.refl _ _)
    · have h1 : 255 < kind := by omega
      clear hk
      go_enter Tryz.func70, Tryz.ntmps70
      go_wp2_with fail
      rw [hp.out]
      go_ret2
      exact PairOf.nil 2 w (Below.refl _ _)
end Go.Proofs.YteambkehdbffmaaGreat.Oct

namespace Go.Proofs.YteambkehdbffmaaGreat.Oct
open Go.RowKit
set_option linter.unusedVariables false

theorem quiet_l {P : Program} {f : FuncId} {args : Array Value} {w : World} {n : Nat} {v : Value}
    (h : Calls P f args (w.drewN n) fun e w' => e = .returned v ∧ w.drewN n = w') : Calls P f args (w.drewN n) fun e w'' => e = .returned v ∧ ∃ m, w'' = w.drewN m :=
  h.mono fun _ _ ⟨he, hm⟩ => ⟨he, n, hm.symm⟩

theorem Rd.drewN {k : IntKind} {w : World} {B : Nat} {A : Option Addr} {n c : Nat} {l : List Int} (h : Rd k w B A n c l) (q : Nat) : Rd k (w.drewN q) B A n c l := h
/-- A cut b[i:j] of a slice that reads as l. -/
theorem Rd.cut {k : IntKind} {w : World} {B b off n c : Nat} {l : List Int} (h : Rd k w B (some ⟨b, off, none⟩) n c l) (i j : Nat) (hij : i ≤ j) (hj : j ≤ n) :
    Rd k w B (some ⟨b, off + i, none⟩) (j - i) (c - i) ((l.drop i).take (j - i)) := by
  have hl := h.len
  have hc := h.le
  have hm := h.cap
  refine ⟨by rw [List.length_take, List.length_drop]; omega, by omega, by omega, fun e => by simp at e, fun hn => ?_⟩
  obtain ⟨b', off', e, hb, hcell⟩ := h.at_ (by omega)
  simp at e
  obtain ⟨rfl, rfl⟩ := e
  refine ⟨b, off + i, rfl, hb, fun q hq => ?_⟩
  rw [Nat.add_assoc, hcell (i + q) (by omega), List.getD_eq_getElem?_getD, List.getD_eq_getElem?_getD, List.getElem?_take_of_lt hq, List.getElem?_drop]

def openP (l : List Int) : Int × List Int × Int :=
  if 512 < l.length then (0, [], 5) else if l.length < 3 then (0, [], 3)
  else if sumP (l.take (l.length - 2)) = (num (l.drop (l.length - 2)) : Nat) then ((num (l.take 1) : Nat), (l.drop 1).take (l.length - 3), 0) else (0, [], 30)

/-- Three results: a number, a slice of the call's own, and an error. -/
def TripOf (k : Int) (l : List Int) (e : Int) (w : World) (en : Ending) (w' : World) : Prop :=
  ∃ A n c, en = .returned (.tuple #[.int .i64 k, .slice A n c, .int .i64 e]) ∧ Own w' w.heap.size (.slice A n c) n l ∧ Below w.heap.size w w'
theorem TripOf.nil (k e : Int) (w : World) {w' : World} (hb : Below w.heap.size w w') : TripOf k [] e w (.returned (.tuple #[.int .i64 k, .slice none 0 0, .int .i64 e])) w' :=
  ⟨none, 0, 0, rfl, Own.nil _ _, hb⟩

set_option maxRecDepth 100000 in
set_option maxHeartbeats 800000 in
theorem open_any {w : World} {B : Nat} {A : Option Addr} {n c : Nat} {l : List Int} (h : Rd .u8 w B A n c l) (hl : By l) (hB : B ≤ w.heap.size) :
    Calls Tryz.prog 93 #[.slice A n c] w (TripOf (openP l).1 (openP l).2.1 (openP l).2.2 w) := by
  have hlen := h.len
  have hmax := h.max
  by_cases h5 : 512 < n
  · have hp := Kp.mk (show openP l = (0, [], 5) by unfold openP; rw [hlen, if_pos h5])
    clear hlen
    go_enter Tryz.func93, Tryz.ntmps93
    go_wp2_with fail
    rw [hp.out]
    go_ret3
    exact TripOf.nil 0 5 w (Below.refl _ _)
  by_cases h3 : n < 3
  · have hp := Kp.mk (show openP l = (0, [], 3) by unfold openP; rw [hlen, if_neg h5, if_pos h3])
    clear hlen
    go_enter Tryz.func93, Tryz.ntmps93
    go_wp2_with fail
    rw [hp.out]
    go_ret3
    exact TripOf.nil 0 3 w (Below.refl _ _)
  obtain ⟨b, off, rfl, hbB, _⟩ := h.at_ (by omega)
  have hc := h.le
  have hcm := h.cap
  have hr1 := Kp.mk (h.cut (n - 2) n (by omega) (Nat.le_refl _))
  have hr2 := Kp.mk (h.cut 0 (n - 2) (by omega) (by omega))
  have hr3 : Kp (Rd .u8 w B (some ⟨b, off, none⟩) 1 c (l.take 1)) := Kp.mk (h.cut 0 1 (by omega) (by omega))
  have en : ((n : Int) - 2).toNat - 1 = n - 3 := by omega
  have hr4 : Kp (Rd .u8 w B (some ⟨b, off + 1, none⟩) (((n : Int) - 2).toNat - 1) (c - 1) ((l.drop 1).take (n - 3))) := Kp.mk (by rw [en]; exact h.cut 1 (n - 2) (by omega) (by omega))
  clear en
  have i1 : (2 : Int) < n := by omega
  have i2 : (n : Int) ≤ 512 := by omega
  have i3 : (n : Int) ≤ c := by omega
  have i4 : (c : Int) ≤ 9223372036854775807 := by unfold maxLen at hcm; omega
  have hd2 : l.drop (n - 2) = (l.drop (n - 2)).take (n - (n - 2)) := (List.take_of_length_le (by rw [List.length_drop]; omega)).symm
  by_cases hs : ((num ((l.drop (n - 2)).take (n - (n - 2))) : Nat) : Int) = sumP (l.take (n - 2))
  · have hp := Kp.mk (show openP l = (((num (l.take 1) : Nat) : Int), (l.drop 1).take (n - 3), 0) by unfold openP; rw [hlen, if_neg h5, if_neg h3, hd2, hs, if_pos rfl])
    have ht : (((num ((l.drop (n - 2)).take (n - (n - 2))) : Nat) : Int) != sumP (l.take (n - 2))) = false := by rw [bne_eq_false_iff_eq]; exact hs
    clear hlen hc hcm h5 h3 hmax hd2 hs
    go_enter Tryz.func93, Tryz.ntmps93
    go_wp2_with fail
    go_quiet ((first | (go_at_call 76; exact quiet_l (number_any (hr1.out.drewN _) ((hl.drop _).take _) (by omega))) | (go_at_call 101; exact quiet_l (sum_any (hr2.out.drewN _) ((hl.drop _).take _)))))
    rename_i nq
    have hb0 : Below w.heap.size w (w.drewN nq) := below_drewN (Below.refl _ _) nq
    have hz0 : (w.drewN nq).heap.size = w.heap.size := rfl
    have H0 := Kp.mk hz0
    clear hz0
    have j1 : (1 : Int) ≤ c := by omega
    have j2 : (1 : Int) ≤ (n : Int) - 2 := by omega
    have j3 : (n : Int) - 2 ≤ c := by omega
    have j4 : (1 : Int) < c := by omega
    go_wp2_with fail
    go_region_held3 (fun w' => Below w.heap.size w w')
      (first
        | exact hb0.drew
        | exact Below.trans (by assumption) (hb1.mono (Below.size (by assumption)))
        | assumption)
      (first | (go_at_call 76; refine (number_any (hr3.out.below' (by assumption) hB) (hl.take _) (by omega)).mono ?_; rintro e w' ⟨rfl, rfl⟩) | (go_at_call 57; refine (copyOf_any 0 0 rfl (hr4.out.below' (by assumption) hB) (Nat.le_trans hB (Below.size (by assumption))) (by omega)).mono ?_; rintro e w1 ⟨A1, n1, c1, rfl, ho1, hb1⟩))
    rename_i hH
    have hoz : w.heap.size ≤ (w.drewN (nq + 1)).heap.size := Nat.le_refl _
    have ho2 := ho1.lower hoz
    clear hoz ho1 hb1
    go_wp2_with fail
    rw [hp.out]
    go_ret3
    exact ⟨A1, n1, c1, rfl, ho2, hH⟩
  · have hp := Kp.mk (show openP l = (0, [], 30) by unfold openP; rw [hlen, if_neg h5, if_neg h3, hd2, if_neg (fun e => hs e.symm)])
    have ht : (((num ((l.drop (n - 2)).take (n - (n - 2))) : Nat) : Int) != sumP (l.take (n - 2))) = true := by rw [bne_iff_ne]; exact hs
    clear hlen hc hcm h5 h3 hmax hd2 hs
    go_enter Tryz.func93, Tryz.ntmps93
    go_wp2_with fail
    go_quiet ((first | (go_at_call 76; exact quiet_l (number_any (hr1.out.drewN _) ((hl.drop _).take _) (by omega))) | (go_at_call 101; exact quiet_l (sum_any (hr2.out.drewN _) ((hl.drop _).take _)))))
    rename_i nq
    go_wp2_with fail
    rw [hp.out]
    go_ret3
    exact TripOf.nil 0 30 w (below_drewN (Below.refl _ _) nq)

theorem num_two (l : List Int) (n : Nat) (hl : By l) (h : l.length = n) (h2 : 2 ≤ n) : ((num (l.drop (n - 2)) : Nat) : Int) = 256 * l.getD (n - 2) 0 + l.getD (n - 1) 0 := by
  have e : l.drop (n - 2) = [l.getD (n - 2) 0, l.getD (n - 1) 0] := by
    rw [List.drop_eq_getElem_cons (by omega), show n - 2 + 1 = n - 1 from by omega, List.drop_eq_getElem_cons (by omega), show n - 1 + 1 = n from by omega, List.drop_eq_nil_of_le (by omega)]
    rw [List.getD_eq_getElem?_getD, List.getD_eq_getElem?_getD, List.getElem?_eq_getElem (by omega), List.getElem?_eq_getElem (by omega)]; rfl
  have b1 := hl.getD (n - 2)
  have b2 := hl.getD (n - 1)
  rw [e]
  have e2 : num [l.getD (n - 2) 0, l.getD (n - 1) 0] = (0 * 256 + (l.getD (n - 2) 0).toNat) * 256 + (l.getD (n - 1) 0).toNat := rfl
  rw [e2]
  omega
theorem num_one (l : List Int) (hl : By l) (h : 1 ≤ l.length) : ((num (l.take 1) : Nat) : Int) = l.getD 0 0 := by
  have e : l.take 1 = [l.getD 0 0] := by
    rw [take_snoc l 0 (by omega)]; rfl
  have b1 := hl.getD 0
  rw [e]
  have e2 : num [l.getD 0 0] = 0 * 256 + (l.getD 0 0).toNat := rfl
  rw [e2]
  omega

set_option maxRecDepth 100000 in
set_option maxHeartbeats 800000 in
theorem refOpen_any {w : World} {B : Nat} {A : Option Addr} {n c : Nat} {l : List Int} (h : Rd .u8 w B A n c l) (hl : By l) (hB : B ≤ w.heap.size) :
    Calls Tryz.prog 97 #[.slice A n c] w (TripOf (openP l).1 (openP l).2.1 (openP l).2.2 w) := by
  have hlen := h.len
  have hmax := h.max
  by_cases h5 : 512 < n
  · have hp := Kp.mk (show openP l = (0, [], 5) by unfold openP; rw [hlen, if_pos h5])
    clear hlen
    go_enter Tryz.func97, Tryz.ntmps97
    go_wp2_with fail
    rw [hp.out]
    go_ret3
    exact TripOf.nil 0 5 w (Below.refl _ _)
  by_cases h3 : n < 3
  · have hp := Kp.mk (show openP l = (0, [], 3) by unfold openP; rw [hlen, if_neg h5, if_pos h3])
    clear hlen
    go_enter Tryz.func97, Tryz.ntmps97
    go_wp2_with fail
    rw [hp.out]
    go_ret3
    exact TripOf.nil 0 3 w (Below.refl _ _)
  obtain ⟨b, off, rfl, hbB, hcell⟩ := h.at_ (by omega)
  have hc := h.le
  have hcm := h.cap
  have hn1 := num_one l hl (by omega)
  have hn2 := num_two l n hl hlen (by omega)
  have c0 := hcell 0 (by omega)
  have c1 := hcell (n - 2) (by omega)
  have c2 := hcell (n - 1) (by omega)
  rw [Nat.add_zero] at c0
  have b1 := hl.getD (n - 2)
  have b2 := hl.getD (n - 1)
  have b0 := hl.getD 0
  have hr2 : Kp (Rd .u8 w B (some ⟨b, off, none⟩) (((n : Int) - 2).toNat) c (l.take (n - 2))) := Kp.mk (by rw [show ((n : Int) - 2).toNat = n - 2 from by omega]; exact h.cut 0 (n - 2) (by omega) (by omega))
  have hr2' : Kp (Rd .u8 w B (some ⟨b, off, none⟩) (n - 2) c (l.take (n - 2))) := Kp.mk (h.cut 0 (n - 2) (by omega) (by omega))
  have hr4 : Kp (Rd .u8 w B (some ⟨b, off + 1, none⟩) (((n : Int) - 2).toNat - 1) (c - 1) ((l.drop 1).take (n - 3))) := Kp.mk (by rw [show ((n : Int) - 2).toNat - 1 = n - 3 from by omega]; exact h.cut 1 (n - 2) (by omega) (by omega))
  have i1 : (2 : Int) < n := by omega
  have i2 : (n : Int) ≤ 512 := by omega
  have i3 : (n : Int) ≤ c := by omega
  have i4 : (c : Int) ≤ 9223372036854775807 := by unfold maxLen at hcm; omega
  have j1 : (1 : Int) ≤ c := by omega
  have j2 : (1 : Int) ≤ (n : Int) - 2 := by omega
  have j3 : (n : Int) - 2 ≤ c := by omega
  have j4 : (1 : Int) < c := by omega
  have j5 : (n : Int) - 2 < n := by omega
  have j6 : (n : Int) - 1 < n := by omega
  have j7 : 0 < n := by omega
  have hd2 : l.drop (n - 2) = (l.drop (n - 2)).take (n - (n - 2)) := (List.take_of_length_le (by rw [List.length_drop]; omega)).symm
  have hp0 := Kp.mk (show openP l = if sumP (l.take (n - 2)) = 256 * l.getD (n - 2) 0 + l.getD (n - 1) 0 then (l.getD 0 0, (l.drop 1).take (n - 3), 0) else (0, [], 30) by unfold openP; rw [hlen, if_neg h5, if_neg h3, hn2, hn1])
  generalize l.getD (n - 2) 0 = x at *
  generalize l.getD (n - 1) 0 = y at *
  generalize l.getD 0 0 = z at *
  obtain ⟨b11, b12⟩ := b1
  obtain ⟨b21, b22⟩ := b2
  obtain ⟨b01, b02⟩ := b0
  clear hlen hc hcm h5 h3 hmax hd2 hn1 hn2 hcell
  by_cases hs : sumP (l.take (n - 2)) = 256 * x + y
  · have hp := Kp.mk (show openP l = (z, (l.drop 1).take (n - 3), 0) by rw [hp0.out, if_pos hs])
    have ht : (sumP (l.take (n - 2)) != 256 * x + y) = false := by rw [bne_eq_false_iff_eq]; exact hs
    clear hs hp0
    go_enter Tryz.func97, Tryz.ntmps97
    go_wp2_with fail
    go_quiet ((go_at_call 90; exact quiet_l (refSum_any (hr2'.out.drewN _) (hl.take _))))
    rename_i nq
    have hb0 : Below w.heap.size w (w.drewN nq) := below_drewN (Below.refl _ _) nq
    have c0' : (w.drewN nq).cell? ⟨b, off, none⟩ = some (.int .u8 z) := c0
    have hbw : b < w.heap.size := by omega
    go_wp2_with fail
    have k1 : (1 : Int) ≤ c := by omega
    have k2 : (1 : Int) ≤ (n : Int) - 2 := by omega
    have k3 : (n : Int) - 2 ≤ c := by omega
    have k4 : (1 : Int) < c := by omega
    clear j5 j6 c1 c2
    have ks : IntKind.i64.wrap ((n : Int) - 2) = (n : Int) - 2 := IntWalk.i64_in _ (by omega)
    have kz : IntKind.i64.wrap z = z := IntWalk.i64_in _ (by omega)
    have kc : ¬ c = 1 := by omega
    have hb01 : Below w.heap.size w (w.drewN (nq + 1)) := below_drewN (Below.refl _ _) (nq + 1)
    go_region_held3 (fun w' => w'.cell? ⟨b, off, none⟩ = some (.int .u8 z) ∧ Below w.heap.size w w')
      (first
        | exact ⟨c0, hb0.drew⟩
        | (go_split_ands
           refine ⟨?_, ?_⟩
           · exact (hb1.cell (p := ⟨b, off, none⟩) (by simp; omega)).trans (by assumption)
           · exact Below.trans (by assumption) (hb1.mono (Below.size (by assumption))))
        | assumption)
      (first | (go_at_call 24; refine (copyBytes_any (hr4.out.below' hb01 hB) (by omega)).mono ?_; rintro e w1 ⟨A1, n1, c1, rfl, ho1, hb1⟩))
    rename_i hH
    have hoz : w.heap.size ≤ (w.drewN (nq + 1)).heap.size := Nat.le_refl _
    have ho2 := ho1.lower hoz
    clear hoz ho1 hb1
    go_wp2_with fail
    rw [hp.out]
    go_ret3
    exact ⟨A1, n1, c1, rfl, ho2, hH.2⟩
  · have hp := Kp.mk (show openP l = (0, [], 30) by rw [hp0.out, if_neg hs])
    have ht : (sumP (l.take (n - 2)) != 256 * x + y) = true := by rw [bne_iff_ne]; exact hs
    clear hs hp0
    go_enter Tryz.func97, Tryz.ntmps97
    go_wp2_with fail
    go_quiet ((go_at_call 90; exact quiet_l (refSum_any (hr2'.out.drewN _) (hl.take _))))
    rename_i nq
    go_wp2_with fail
    rw [hp.out]
    go_ret3
    exact TripOf.nil 0 30 w (below_drewN (Below.refl _ _) nq)
end Go.Proofs.YteambkehdbffmaaGreat.Oct
