/- Contracts of layer 4: the document's bytes of a probe; Found, and the document's. -/
import Derived.Test.YteambkehdbffmaaGreatPrbD
namespace Go.Proofs.YteambkehdbffmaaGreat.Oct
open Go.RowKit
set_option linter.unusedVariables false

theorem put_four (f p t q : Int) (hf : 0 ≤ f ∧ f < 256) (hp : 0 ≤ p ∧ p < 256) (ht : 0 ≤ t ∧ t < 256) (hq : 0 ≤ q ∧ q < 256) : putP [] 1 [f, p, t, q] = (dg 1 f ++ (dg 1 p ++ (dg 1 t ++ dg 1 q)), 0) := by
  unfold putP
  rw [if_pos (by omega), if_pos (by simp [fitsP]; omega)]
  simp
theorem put_nonce (l : List Int) (n : Int) (hn : 0 ≤ n ∧ n ≤ 65535) : putP l 2 [n] = (l ++ dg 2 n, 0) := putP_one l 2 (by omega) n hn.1 (by omega)
theorem qB_parts (f p t q n : Int) : (dg 1 f ++ (dg 1 p ++ (dg 1 t ++ dg 1 q))) ++ dg 2 n = qB f p t q n := by simp [qB, List.append_assoc]

set_option maxRecDepth 100000 in
set_option maxHeartbeats 1600000 in
theorem refBytes_any (f p t q n : Int) (w : World) : Calls Tryz.prog 31 #[.agg #[.int .i64 f, .int .i64 p, .int .i64 t, .int .i64 q, .int .i64 n]] w (PairOf (bytesQ f p t q n).1 (bytesQ f p t q n).2 w) := by
  by_cases ok : okQ f p t q n
  · have hp1 := Kp.mk (show checkQ f p t q n = 0 from if_pos ok)
    have hp2 := Kp.mk (bytesQ_ok ok)
    have hq1 := Kp.mk (put_four f p t q (by unfold okQ at ok; omega) (by unfold okQ at ok; omega) (by unfold okQ at ok; omega) (by unfold okQ at ok; omega))
    have hq2 := Kp.mk (fun l => put_nonce l n ok.2.2.2)
    have hq3 := Kp.mk (qB_parts f p t q n)
    clear ok
    go_enter Tryz.func31, Tryz.ntmps31
    go_wp2_with fail
    have hb0 := below_alloc w (.cells #[.int .i64 f, .int .i64 p, .int .i64 t, .int .i64 q, .int .i64 n] 34)
    have hx0 := Nb.new 34 w [f, p, t, q, n]
    change Nb _ (w.alloc (.cells #[.int .i64 f, .int .i64 p, .int .i64 t, .int .i64 q, .int .i64 n] 34)) _ _ at hx0
    generalize hW : (w.alloc (.cells #[.int .i64 f, .int .i64 p, .int .i64 t, .int .i64 q, .int .i64 n] 34)) = w0 at *
    have hz0 : w0.heap.size = w.heap.size + 1 := by rw [← hW]; simp
    clear hW
    refine (refCheck_any f p t q n w0).mono ?_
    rw [hp1.out]
    rintro e w1 ⟨rfl, hb1⟩
    have hx1 := hx0.below hb1 (by omega)
    have hz1 := hb1.size
    obtain ⟨d0, d1, d2, d3, d4⟩ := hx1.five
    go_wp2_with fail
    refine (refPut_lit 1 [f, p, t, q] (Rd.nil .u8 w1 0) (by omega) (by simp) (by simp)).mono ?_
    rw [hq1.out]
    rintro e w2 ⟨A2, n2, c2, rfl, ho2, hb2⟩
    have hx2 := hx1.below hb2 (by omega)
    have hz2 := hb2.size
    have hl2 := ho2.len
    clear d0 d1 d2 d3 d4
    obtain ⟨d0, d1, d2, d3, d4⟩ := hx2.five
    go_wp2_with fail
    refine (refPut_lit 2 [n] ho2.rd (Nat.le_refl _) (by simp) (by simp [dg_len] at hl2; omega)).mono ?_
    rw [hq2.out, hq3.out]
    rintro e w3 ⟨A3, n3, c3, rfl, ho3, hb3⟩
    have hz3 := hb3.size
    have hl3 := ho3.len
    rw [qB_len] at hl3
    go_wp2_with fail
    refine (refSeal_any 2 ho3.rd (qB_by _ _ _ _ _) (Nat.le_refl _) (by omega)).mono ?_
    rintro e w6 ⟨A6, n6, c6, rfl, ho6, hb6⟩
    go_wp2_with fail
    rw [hp2.out]
    go_ret2
    exact ⟨A6, n6, c6, rfl, ho6.lower (by omega), hb0.trans ((hb1.mono (by omega)).trans ((hb2.mono (by omega)).trans ((hb3.mono (by omega)).trans (hb6.mono (by omega)))))⟩
  · have hp1 := Kp.mk (show checkQ f p t q n = 2 from if_neg ok)
    have hp2 := Kp.mk (show bytesQ f p t q n = ([], 2) from if_neg ok)
    clear ok
    go_enter Tryz.func31, Tryz.ntmps31
    go_wp2_with fail
    have hb0 := below_alloc w (.cells #[.int .i64 f, .int .i64 p, .int .i64 t, .int .i64 q, .int .i64 n] 34)
    generalize hW : (w.alloc (.cells #[.int .i64 f, .int .i64 p, .int .i64 t, .int .i64 q, .int .i64 n] 34)) = w0 at *
    have hz0 : w0.heap.size = w.heap.size + 1 := by rw [← hW]; simp
    clear hW
    refine (refCheck_any f p t q n w0).mono ?_
    rw [hp1.out]
    rintro e w1 ⟨rfl, hb1⟩
    go_wp2_with fail
    rw [hp2.out]
    go_ret2
    exact PairOf.nil 2 w (hb0.trans (hb1.mono (by omega)))
end Go.Proofs.YteambkehdbffmaaGreat.Oct
