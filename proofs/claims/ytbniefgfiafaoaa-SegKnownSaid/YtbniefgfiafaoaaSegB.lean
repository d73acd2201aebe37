/- Contracts of layer 5: a segment's body and its bytes; the document's bytes. -/
import Derived.Test.YtbniefgfiafaoaaSegR
import Derived.Test.YtbniefgfiafaoaaPut
namespace Go.Proofs.Ytbniefgfiafaoaa.Oct
open Go.RowKit
set_option linter.unusedVariables false

theorem put_four (k t f h : Int) (hk : 0 ≤ k ∧ k < 256) (ht : 0 ≤ t ∧ t < 256) (hf : 0 ≤ f ∧ f < 256) (hh : 0 ≤ h ∧ h < 256) : putP [] 1 [k, t, f, h] = (dg 1 k ++ (dg 1 t ++ (dg 1 f ++ dg 1 h)), 0) := by
  unfold putP
  rw [if_pos (by omega), if_pos (by simp [fitsP]; omega)]
  simp
theorem put_longs (l : List Int) (p o : Int) (hp : 0 ≤ p ∧ p < 4294967296) (ho : 0 ≤ o ∧ o < 4294967296) : putP l 4 [p, o] = (l ++ (dg 4 p ++ dg 4 o), 0) := by
  unfold putP
  rw [if_pos (by omega), if_pos (by simp [fitsP]; omega)]
  simp
theorem put_shorts (l : List Int) (s a : Int) (hs : 0 ≤ s ∧ s < 65536) (ha : 0 ≤ a ∧ a < 65536) : putP l 2 [s, a] = (l ++ (dg 2 s ++ dg 2 a), 0) := by
  unfold putP
  rw [if_pos (by omega), if_pos (by simp [fitsP]; omega)]
  simp
theorem sB_parts (k t f h p o s a : Int) (l : List Int) : (((dg 1 k ++ (dg 1 t ++ (dg 1 f ++ dg 1 h))) ++ (dg 4 p ++ dg 4 o)) ++ (dg 2 s ++ dg 2 a)) ++ dg 2 l.length ++ l = sB k t f h p o s a l := by
  unfold sB
  simp only [List.append_assoc]

section
variable {k t f h p o s a : Int} {A : Option Addr} {n c B : Nat} {l : List Int} {w : World}
set_option maxRecDepth 100000 in
set_option maxHeartbeats 1600000 in
theorem body_any (hr : Rd .u8 w B A n c l) (hB : B ≤ w.heap.size) (ok : okS k t f h p o s a l.length) :
    Calls Try.prog 24 #[.agg #[.int .i64 k, .int .i64 t, .int .i64 f, .int .i64 h, .int .i64 p, .int .i64 o, .int .i64 s, .int .i64 a, .slice A n c]] w (NewOf (sB k t f h p o s a l) w) := by
  have bd := okS_bd ok
  have hln := hr.len
  have hq1 := Kp.mk (put_four k t f h (by omega) (by omega) (by omega) (by omega))
  have hq2 := Kp.mk (fun l => put_longs l p o (by omega) (by omega))
  have hq3 := Kp.mk (fun l => put_shorts l s a (by omega) (by omega))
  have hq4 := Kp.mk (fun x => textP_ok x l (by omega))
  have hq5 := Kp.mk (sB_parts k t f h p o s a l)
  have hn : n ≤ 256 := by omega
  clear bd ok hln
  go_enter Try.func24, Try.ntmps24
  go_wp2_with fail
  have hb0 := below_alloc w (.cells #[.int .i64 k, .int .i64 t, .int .i64 f, .int .i64 h, .int .i64 p, .int .i64 o, .int .i64 s, .int .i64 a, .slice A n c] 24)
  have hx0 : Sg (w.alloc (.cells #[.int .i64 k, .int .i64 t, .int .i64 f, .int .i64 h, .int .i64 p, .int .i64 o, .int .i64 s, .int .i64 a, .slice A n c] 24)) w.heap.size [k, t, f, h, p, o, s, a] (.slice A n c) := Sg.new w [k, t, f, h, p, o, s, a] (.slice A n c)
  have hr0 := hr.below' hb0 hB
  have hz0 : (w.alloc (.cells #[.int .i64 k, .int .i64 t, .int .i64 f, .int .i64 h, .int .i64 p, .int .i64 o, .int .i64 s, .int .i64 a, .slice A n c] 24)).heap.size = w.heap.size + 1 := by simp
  generalize (w.alloc (.cells #[.int .i64 k, .int .i64 t, .int .i64 f, .int .i64 h, .int .i64 p, .int .i64 o, .int .i64 s, .int .i64 a, .slice A n c] 24)) = w0 at *
  rw [← hz0]
  refine (put_lit 1 [k, t, f, h] (Rd.nil .u8 w0 0) (by omega) (by simp) (by simp)).mono ?_
  rw [hq1.out]
  rintro e w1 ⟨A1, n1, c1, rfl, ho1, hb1⟩
  have hx1 := hx0.below hb1 (by omega)
  have hr1 := hr0.below' hb1 (by omega)
  have hz1 := hb1.size
  have hl1 : n1 ≤ 20 := by have := ho1.len; simp [dg_len] at this; omega
  obtain ⟨d0, d1, d2, d3, d4, d5, d6, d7, d8⟩ := hx1.nine
  go_wp2_with fail
  refine (put_lit 4 [p, o] ho1.rd (Nat.le_refl _) (by simp) (by omega)).mono ?_
  rw [hq2.out]
  rintro e w2 ⟨A2, n2, c2, rfl, ho2, hb2⟩
  have hx2 := hx1.below hb2 (by omega)
  have hr2 := hr1.below' hb2 (by omega)
  have hz2 := hb2.size
  have hl2 : n2 ≤ 20 := by have := ho2.len; simp [dg_len] at this; omega
  clear d0 d1 d2 d3 d4 d5 d6 d7 d8
  obtain ⟨d0, d1, d2, d3, d4, d5, d6, d7, d8⟩ := hx2.nine
  go_wp2_with fail
  refine (put_lit 2 [s, a] ho2.rd (Nat.le_refl _) (by simp) (by omega)).mono ?_
  rw [hq3.out]
  rintro e w3 ⟨A3, n3, c3, rfl, ho3, hb3⟩
  have hx3 := hx2.below hb3 (by omega)
  have hr3 := hr2.below' hb3 (by omega)
  have hz3 := hb3.size
  have hl3 : n3 ≤ 20 := by have := ho3.len; simp [dg_len] at this; omega
  clear d0 d1 d2 d3 d4 d5 d6 d7 d8
  obtain ⟨d0, d1, d2, d3, d4, d5, d6, d7, d8⟩ := hx3.nine
  go_wp2_with fail
  refine (text_any ho3.rd hr3 (Nat.le_refl _) (by omega) (by omega)).mono ?_
  rw [hq4.out, hq5.out]
  rintro e w4 ⟨A4, n4, c4, rfl, ho4, hb4⟩
  go_wp2_with fail
  go_ret
  exact ⟨A4, n4, c4, rfl, ho4.lower (by omega), hb0.trans ((hb1.mono (by omega)).trans ((hb2.mono (by omega)).trans ((hb3.mono (by omega)).trans (hb4.mono (by omega)))))⟩

set_option maxRecDepth 100000 in
set_option maxHeartbeats 1600000 in
theorem bytesS_any (hr : Rd .u8 w B A n c l) (hB : B ≤ w.heap.size) (hby : By l) :
    Calls Try.prog 11 #[.agg #[.int .i64 k, .int .i64 t, .int .i64 f, .int .i64 h, .int .i64 p, .int .i64 o, .int .i64 s, .int .i64 a, .slice A n c]] w (PairOf (bytesS k t f h p o s a l).1 (bytesS k t f h p o s a l).2 w) := by
  have hln := hr.len
  by_cases ok : okS k t f h p o s a l.length
  · have bd := okS_bd ok
    have hp1 := Kp.mk (show checkS k t f h p o s a n = 0 by rw [← hln]; exact if_pos ok)
    have hp2 := Kp.mk (bytesS_ok hby ok)
    have Hb := Kp.mk (fun w1 (h1 : Rd .u8 w1 (w.heap.size + 1) A n c l) (h2 : w.heap.size + 1 ≤ w1.heap.size) => body_any (k := k) (t := t) (f := f) (h := h) (p := p) (o := o) (s := s) (a := a) h1 h2 ok)
    have hby2 := Kp.mk (sB_by k t f h p o s a hby)
    have hlen := Kp.mk (sB_len k t f h p o s a l)
    have hn : n ≤ 256 := by omega
    clear ok bd
    go_enter Try.func11, Try.ntmps11
    go_wp2_with fail
    have hb0 := below_alloc w (.cells #[.int .i64 k, .int .i64 t, .int .i64 f, .int .i64 h, .int .i64 p, .int .i64 o, .int .i64 s, .int .i64 a, .slice A n c] 24)
    have hx0 : Sg (w.alloc (.cells #[.int .i64 k, .int .i64 t, .int .i64 f, .int .i64 h, .int .i64 p, .int .i64 o, .int .i64 s, .int .i64 a, .slice A n c] 24)) w.heap.size [k, t, f, h, p, o, s, a] (.slice A n c) := Sg.new w [k, t, f, h, p, o, s, a] (.slice A n c)
    have hr0 := (hr.below' hb0 hB).more (Nat.le_succ_of_le hB)
    have hz0 : (w.alloc (.cells #[.int .i64 k, .int .i64 t, .int .i64 f, .int .i64 h, .int .i64 p, .int .i64 o, .int .i64 s, .int .i64 a, .slice A n c] 24)).heap.size = w.heap.size + 1 := by simp
    generalize (w.alloc (.cells #[.int .i64 k, .int .i64 t, .int .i64 f, .int .i64 h, .int .i64 p, .int .i64 o, .int .i64 s, .int .i64 a, .slice A n c] 24)) = w0 at *
    refine (checkS_any k t f h p o s a A n c w0).mono ?_
    rw [hp1.out]
    rintro e w1 ⟨rfl, hb1⟩
    have hx1 := hx0.below hb1 (by omega)
    have hr1 := hr0.below' hb1 (by omega)
    have hz1 := hb1.size
    obtain ⟨d0, d1, d2, d3, d4, d5, d6, d7, d8⟩ := hx1.nine
    go_wp2_with fail
    refine (Hb.out w1 hr1 (by omega)).mono ?_
    rintro e w2 ⟨A2, n2, c2, rfl, ho2, hb2⟩
    have hz2 := hb2.size
    have hl2 := ho2.len
    rw [hlen.out] at hl2
    go_wp2_with fail
    refine (seal_any 3 ho2.rd hby2.out (Nat.le_refl _) (by omega)).mono ?_
    rintro e w3 ⟨A3, n3, c3, rfl, ho3, hb3⟩
    go_wp2_with fail
    rw [hp2.out]
    go_ret2
    exact ⟨A3, n3, c3, rfl, ho3.lower (by omega), hb0.trans ((hb1.mono (by omega)).trans ((hb2.mono (by omega)).trans (hb3.mono (by omega))))⟩
  · have hp1 := Kp.mk (show checkS k t f h p o s a n = 2 by rw [← hln]; exact if_neg ok)
    have hp2 := Kp.mk (show bytesS k t f h p o s a l = ([], 2) from if_neg ok)
    clear ok
    go_enter Try.func11, Try.ntmps11
    go_wp2_with fail
    have hb0 := below_alloc w (.cells #[.int .i64 k, .int .i64 t, .int .i64 f, .int .i64 h, .int .i64 p, .int .i64 o, .int .i64 s, .int .i64 a, .slice A n c] 24)
    have hz0 : (w.alloc (.cells #[.int .i64 k, .int .i64 t, .int .i64 f, .int .i64 h, .int .i64 p, .int .i64 o, .int .i64 s, .int .i64 a, .slice A n c] 24)).heap.size = w.heap.size + 1 := by simp
    generalize (w.alloc (.cells #[.int .i64 k, .int .i64 t, .int .i64 f, .int .i64 h, .int .i64 p, .int .i64 o, .int .i64 s, .int .i64 a, .slice A n c] 24)) = w0 at *
    refine (checkS_any k t f h p o s a A n c w0).mono ?_
    rw [hp1.out]
    rintro e w1 ⟨rfl, hb1⟩
    go_wp2_with fail
    rw [hp2.out]
    go_ret2
    exact PairOf.nil 2 w (hb0.trans (hb1.mono (by omega)))

set_option maxRecDepth 100000 in
set_option maxHeartbeats 3200000 in
theorem refBytesS_any (hr : Rd .u8 w B A n c l) (hB : B ≤ w.heap.size) (hby : By l) :
    Calls Try.prog 12 #[.agg #[.int .i64 k, .int .i64 t, .int .i64 f, .int .i64 h, .int .i64 p, .int .i64 o, .int .i64 s, .int .i64 a, .slice A n c]] w (PairOf (bytesS k t f h p o s a l).1 (bytesS k t f h p o s a l).2 w) := by
  have hln := hr.len
  by_cases ok : okS k t f h p o s a l.length
  · have bd := okS_bd ok
    have hp1 := Kp.mk (show checkS k t f h p o s a n = 0 by rw [← hln]; exact if_pos ok)
    have hp2 := Kp.mk (bytesS_ok hby ok)
    have hq1 := Kp.mk (put_four k t f h (by omega) (by omega) (by omega) (by omega))
    have hq2 := Kp.mk (fun l => put_longs l p o (by omega) (by omega))
    have hq3 := Kp.mk (fun l => put_shorts l s a (by omega) (by omega))
    have hq4 := Kp.mk (fun x => textP_ok x l (by omega))
    have hq5 := Kp.mk (sB_parts k t f h p o s a l)
    have hby2 := Kp.mk (sB_by k t f h p o s a hby)
    have hlen := Kp.mk (sB_len k t f h p o s a l)
    have hn : n ≤ 256 := by omega
    clear ok bd
    go_enter Try.func12, Try.ntmps12
    go_wp2_with fail
    have hb0 := below_alloc w (.cells #[.int .i64 k, .int .i64 t, .int .i64 f, .int .i64 h, .int .i64 p, .int .i64 o, .int .i64 s, .int .i64 a, .slice A n c] 24)
    have hx0 : Sg (w.alloc (.cells #[.int .i64 k, .int .i64 t, .int .i64 f, .int .i64 h, .int .i64 p, .int .i64 o, .int .i64 s, .int .i64 a, .slice A n c] 24)) w.heap.size [k, t, f, h, p, o, s, a] (.slice A n c) := Sg.new w [k, t, f, h, p, o, s, a] (.slice A n c)
    have hr0 := (hr.below' hb0 hB).more (Nat.le_succ_of_le hB)
    have hz0 : (w.alloc (.cells #[.int .i64 k, .int .i64 t, .int .i64 f, .int .i64 h, .int .i64 p, .int .i64 o, .int .i64 s, .int .i64 a, .slice A n c] 24)).heap.size = w.heap.size + 1 := by simp
    generalize (w.alloc (.cells #[.int .i64 k, .int .i64 t, .int .i64 f, .int .i64 h, .int .i64 p, .int .i64 o, .int .i64 s, .int .i64 a, .slice A n c] 24)) = w0 at *
    refine (refCheckS_any k t f h p o s a A n c w0).mono ?_
    rw [hp1.out]
    rintro e w1 ⟨rfl, hb1⟩
    have hx1 := hx0.below hb1 (by omega)
    have hr1 := hr0.below' hb1 (by omega)
    have hz1 := hb1.size
    obtain ⟨d0, d1, d2, d3, d4, d5, d6, d7, d8⟩ := hx1.nine
    go_wp2_with fail
    refine (refPut_lit 1 [k, t, f, h] (Rd.nil .u8 w1 0) (by omega) (by simp) (by simp)).mono ?_
    rw [hq1.out]
    rintro e w2 ⟨A2, n2, c2, rfl, ho2, hb2⟩
    have hx2 := hx1.below hb2 (by omega)
    have hr2 := hr1.below' hb2 (by omega)
    have hz2 := hb2.size
    have hl2 : n2 ≤ 20 := by have := ho2.len; simp [dg_len] at this; omega
    clear d0 d1 d2 d3 d4 d5 d6 d7 d8
    obtain ⟨d0, d1, d2, d3, d4, d5, d6, d7, d8⟩ := hx2.nine
    go_wp2_with fail
    refine (refPut_lit 4 [p, o] ho2.rd (Nat.le_refl _) (by simp) (by omega)).mono ?_
    rw [hq2.out]
    rintro e w3 ⟨A3, n3, c3, rfl, ho3, hb3⟩
    have hx3 := hx2.below hb3 (by omega)
    have hr3 := hr2.below' hb3 (by omega)
    have hz3 := hb3.size
    have hl3 : n3 ≤ 20 := by have := ho3.len; simp [dg_len] at this; omega
    clear d0 d1 d2 d3 d4 d5 d6 d7 d8
    obtain ⟨d0, d1, d2, d3, d4, d5, d6, d7, d8⟩ := hx3.nine
    go_wp2_with fail
    refine (refPut_lit 2 [s, a] ho3.rd (Nat.le_refl _) (by simp) (by omega)).mono ?_
    rw [hq3.out]
    rintro e w4 ⟨A4, n4, c4, rfl, ho4, hb4⟩
    have hx4 := hx3.below hb4 (by omega)
    have hr4 := hr3.below' hb4 (by omega)
    have hz4 := hb4.size
    have hl4 : n4 ≤ 20 := by have := ho4.len; simp [dg_len] at this; omega
    clear d0 d1 d2 d3 d4 d5 d6 d7 d8
    obtain ⟨d0, d1, d2, d3, d4, d5, d6, d7, d8⟩ := hx4.nine
    go_wp2_with fail
    refine (refText_any ho4.rd hr4 (Nat.le_refl _) (by omega) (by omega)).mono ?_
    rw [hq4.out, hq5.out]
    rintro e w5 ⟨A5, n5, c5, rfl, ho5, hb5⟩
    have hz5 := hb5.size
    have hl5 := ho5.len
    rw [hlen.out] at hl5
    go_wp2_with fail
    refine (refSeal_any 3 ho5.rd hby2.out (Nat.le_refl _) (by omega)).mono ?_
    rintro e w6 ⟨A6, n6, c6, rfl, ho6, hb6⟩
    go_wp2_with fail
    rw [hp2.out]
    go_ret2
    exact ⟨A6, n6, c6, rfl, ho6.lower (by omega), hb0.trans ((hb1.mono (by omega)).trans ((hb2.mono (by omega)).trans ((hb3.mono (by omega)).trans ((hb4.mono (by omega)).trans ((hb5.mono (by omega)).trans (hb6.mono (by omega)))))))⟩
  · have hp1 := Kp.mk (show checkS k t f h p o s a n = 2 by rw [← hln]; exact if_neg ok)
    have hp2 := Kp.mk (show bytesS k t f h p o s a l = ([], 2) from if_neg ok)
    clear ok
    go_enter Try.func12, Try.ntmps12
    go_wp2_with fail
    have hb0 := below_alloc w (.cells #[.int .i64 k, .int .i64 t, .int .i64 f, .int .i64 h, .int .i64 p, .int .i64 o, .int .i64 s, .int .i64 a, .slice A n c] 24)
    have hz0 : (w.alloc (.cells #[.int .i64 k, .int .i64 t, .int .i64 f, .int .i64 h, .int .i64 p, .int .i64 o, .int .i64 s, .int .i64 a, .slice A n c] 24)).heap.size = w.heap.size + 1 := by simp
    generalize (w.alloc (.cells #[.int .i64 k, .int .i64 t, .int .i64 f, .int .i64 h, .int .i64 p, .int .i64 o, .int .i64 s, .int .i64 a, .slice A n c] 24)) = w0 at *
    refine (refCheckS_any k t f h p o s a A n c w0).mono ?_
    rw [hp1.out]
    rintro e w1 ⟨rfl, hb1⟩
    go_wp2_with fail
    rw [hp2.out]
    go_ret2
    exact PairOf.nil 2 w (hb0.trans (hb1.mono (by omega)))
end
end Go.Proofs.Ytbniefgfiafaoaa.Oct
