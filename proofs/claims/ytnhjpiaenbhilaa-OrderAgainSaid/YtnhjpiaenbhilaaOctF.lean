/- Contracts of layer 1: Text and Seal, and the document's. -/
import Derived.Test.YtnhjpiaenbhilaaOctE
namespace Go.Proofs.Ytnhjpiaenbhilaa.Oct
open Go.RowKit
set_option linter.unusedVariables false

def textP (l s : List Int) : List Int × Int := if 65535 < s.length then ([], 5) else (l ++ dg 2 s.length ++ s, 0)
theorem textP_by (l s : List Int) (h : By l) (hs : By s) : By (textP l s).1 := by
  unfold textP
  split
  · exact By.nil
  · exact (h.append (dg_by _ _)).append hs

set_option maxRecDepth 100000 in
set_option maxHeartbeats 400000 in
theorem text_any {w : World} {B B2 : Nat} {A A2 : Option Addr} {n c m c2 : Nat} {l s : List Int} (h : Rd .u8 w B A n c l) (h2 : Rd .u8 w B2 A2 m c2 s) (hB : B ≤ w.heap.size) (hB2 : B2 ≤ w.heap.size) (hs : n + m ≤ 140737488355000) :
    Calls Try.prog 69 #[.slice A n c, .slice A2 m c2] w (PairOf (textP l s).1 (textP l s).2 w) := by
  have hlen2 := h2.len
  by_cases hm : 65535 < m
  · have hp := Kp.mk (show textP l s = ([], 5) by unfold textP; rw [hlen2, if_pos hm])
    go_enter Try.func69, Try.ntmps69
    go_wp2_with fail
    rw [hp.out]
    go_ret2
    exact PairOf.nil 5 w (Below.refl _ _)
  · have hp := Kp.mk (show textP l s = (l ++ dg 2 m ++ s, 0) by unfold textP; rw [hlen2, if_neg hm])
    go_enter Try.func69, Try.ntmps69
    go_wp2_with fail
    refine (copyOf_any (2 + m) _ (by simp) h hB (by omega)).mono ?_
    rintro e w1 ⟨A1, n1, c1, rfl, ho1, hb1⟩
    have hn1 : n1 = n := by have := ho1.len; have := h.len; omega
    subst hn1
    have hz1 := hb1.size
    go_wp2_with fail
    refine (digits_any 2 m ho1 hz1 (by omega) (by omega) (by omega) (by omega)).mono ?_
    rintro e w2 ⟨A3, n3, c3, rfl, ho3, hb3⟩
    have hn3 : n3 = n1 + 2 := by have g1 := ho3.len; have g2 := ho1.len; rw [List.length_append, dg_len] at g1; omega
    subst hn3
    have hb4 := hb1.trans hb3
    have hz4 := hb4.size
    have hr4 := h2.below' hb4 hB2
    go_wp2_with (at_builtin; refine wpList_append8 rfl (.tmp 18) (.tmp 19) rfl rfl ho3 rfl hr4 (by omega) hz4 ?_; intro A5 c5 w5 ho5 hb5)
    rw [hp.out]
    go_ret2
    exact ⟨A5, _, c5, rfl, ho5, hb4.trans hb5⟩

theorem putP_two (l : List Int) (x : Int) (h0 : 0 ≤ x) (h : x < 65536) : putP l 2 [x] = (l ++ dg 2 x, 0) := by
  unfold putP
  rw [if_pos (by omega)]
  have : fitsP x 2 = true := by unfold fitsP; exact decide_eq_true ⟨h0, by simpa using h⟩
  simp [this]

set_option maxRecDepth 100000 in
set_option maxHeartbeats 400000 in
theorem refText_any {w : World} {B B2 : Nat} {A A2 : Option Addr} {n c m c2 : Nat} {l s : List Int} (h : Rd .u8 w B A n c l) (h2 : Rd .u8 w B2 A2 m c2 s) (hB : B ≤ w.heap.size) (hB2 : B2 ≤ w.heap.size) (hs : n + m ≤ 140737488355000) :
    Calls Try.prog 31 #[.slice A n c, .slice A2 m c2] w (PairOf (textP l s).1 (textP l s).2 w) := by
  have hlen2 := h2.len
  by_cases hm : 65535 < m
  · have hp := Kp.mk (show textP l s = ([], 5) by unfold textP; rw [hlen2, if_pos hm])
    go_enter Try.func31, Try.ntmps31
    go_wp2_with fail
    rw [hp.out]
    go_ret2
    exact PairOf.nil 5 w (Below.refl _ _)
  · have hp := Kp.mk (show textP l s = (l ++ dg 2 m ++ s, 0) by unfold textP; rw [hlen2, if_neg hm])
    have hp2 := Kp.mk (putP_two l m (by omega) (by omega))
    have hm' : (m : Int) ≤ 65535 := by omega
    have Hs := Kp.mk hs
    clear hm hs
    go_enter Try.func31, Try.ntmps31
    go_wp2_with fail
    have hr1 := rd_lit .i64 w 3 [(m : Int)] (by simp [maxLen]) (w.heap.size + 1) (by omega)
    have hba := (Below.refl w.heap.size w).alloc (Nat.le_refl _) (.cells ([(m : Int)].map (Value.int .i64)).toArray 3)
    have hr0 := h.below' hba hB
    refine (refPut_any 2 hr0 hr1 (by simp; omega) (by simp) (by have := Hs.out; simp; omega)).mono ?_
    rw [hp2.out]
    rintro e w1 ⟨A1, n1, c1, rfl, ho1, hb1⟩
    have hn1 : n1 = n + 2 := by have g1 := ho1.len; have g2 := h.len; rw [List.length_append, dg_len] at g1; omega
    subst hn1
    have hb2 : Below w.heap.size w w1 := hba.trans (hb1.mono (by simp))
    have hz1 := hb2.size
    have ho2 := ho1.lower (b := w.heap.size) (by simp)
    have hr4 := h2.below' hb2 hB2
    go_wp2_with (at_builtin; refine wpList_append8 rfl (.tmp 19) (.tmp 20) rfl rfl ho2 rfl hr4 (by have := Hs.out; omega) hz1 ?_; intro A5 c5 w5 ho5 hb5)
    rw [hp.out]
    go_ret2
    exact ⟨A5, _, c5, rfl, ho5, hb2.trans hb5⟩
end Go.Proofs.Ytnhjpiaenbhilaa.Oct
