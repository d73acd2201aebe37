/- Contracts of layer 3: the document's bytes of a datum. -/
import Derived.Test.YtbgbajamjcohoaaDatB
namespace Go.Proofs.Ytbgbajamjcohoaa.Oct
open Go.RowKit
set_option linter.unusedVariables false

set_option maxRecDepth 100000 in
set_option maxHeartbeats 1600000 in
theorem refBytes_any (v h i a b c : Int) (w : World) (ha : 0 ≤ a ∧ a < 256) (hb : 0 ≤ b ∧ b < 256) (hc : 0 ≤ c ∧ c < 256) :
    Calls Try.prog 10 #[.agg #[.int .i64 v, .int .i64 h, .int .i64 i, .int .u8 a, .int .u8 b, .int .u8 c]] w (PairOf (bytesD v h i a b c).1 (bytesD v h i a b c).2 w) := by
  by_cases ok : okD v h i
  · have hp1 := Kp.mk (show checkD v h i = 0 from if_pos ok)
    have hp2 := Kp.mk (bytesD_ok a b c ok)
    have hq1 := Kp.mk (put_ver v h ok.1 ok.2.1)
    have hq2 := Kp.mk (fun l => put_id l i ok.2.2)
    have hq3 := Kp.mk (dB_parts v h i a b c ha hb hc)
    clear ok ha hb hc
    go_enter Try.func10, Try.ntmps10
    go_wp2_with fail
    have hb0 := below_alloc w (.cells #[.int .i64 v, .int .i64 h, .int .i64 i, .int .u8 a, .int .u8 b, .int .u8 c] 25)
    have hx0 := Bx.new w v h i a b c
    generalize hW : (w.alloc (.cells #[.int .i64 v, .int .i64 h, .int .i64 i, .int .u8 a, .int .u8 b, .int .u8 c] 25)) = w0 at *
    have hz0 : w0.heap.size = w.heap.size + 1 := by rw [← hW]; simp
    clear hW
    refine (refCheck_any v h i a b c w0).mono ?_
    rw [hp1.out]
    rintro e w1 ⟨rfl, hb1⟩
    have hx1 := hx0.below hb1 (by omega)
    have hz1 := hb1.size
    obtain ⟨d0, d1, d2, d3, d4, d5⟩ := id hx1
    go_wp2_with fail
    refine (refPut_lit 1 [v, h] (Rd.nil .u8 w1 0) (by omega) (by simp) (by simp)).mono ?_
    rw [hq1.out]
    rintro e w2 ⟨A2, n2, c2, rfl, ho2, hb2⟩
    have hx2 := hx1.below hb2 (by omega)
    have hz2 := hb2.size
    have hl2 := ho2.len
    clear d0 d1 d2 d3 d4 d5
    obtain ⟨d0, d1, d2, d3, d4, d5⟩ := id hx2
    go_wp2_with fail
    refine (refPut_lit 4 [i] ho2.rd (Nat.le_refl _) (by simp) (by simp [dg_len] at hl2; omega)).mono ?_
    rw [hq2.out]
    rintro e w3 ⟨A3, n3, c3, rfl, ho3, hb3⟩
    have hx3 := hx2.below hb3 (by omega)
    have hz3 := hb3.size
    have hl3 := ho3.len
    have hr3 := rd_lit .u8 w3 5 [a, b, c] (by unfold maxLen; simp) (w3.heap.size + 1) (by omega)
    have ho3' := ho3.below (below_alloc w3 (.cells ([a, b, c].map (Value.int .u8)).toArray 5)) (Nat.le_refl _)
    clear d0 d1 d2 d3 d4 d5
    obtain ⟨d0, d1, d2, d3, d4, d5⟩ := id hx3
    go_wp2_with (at_builtin; refine wpList_append8 rfl (.tmp 29) (.tmp 39) rfl rfl ho3' rfl hr3 (by simp [dg_len] at hl3; simp; omega) (Nat.le_trans hz3 (below_alloc w3 _).size) ?_; intro A5 c5 w5 ho5 hb5)
    have hz5 := hb5.size
    simp at hz5
    rw [hq3.out] at ho5
    have hl5 := ho5.len
    rw [dB_len] at hl5
    refine (refSeal_any 1 ho5.rd (dB_by _ _ _ _ _ _) (Nat.le_refl _) (by omega)).mono ?_
    rintro e w6 ⟨A6, n6, c6, rfl, ho6, hb6⟩
    go_wp2_with fail
    rw [hp2.out]
    go_ret2
    exact ⟨A6, n6, c6, rfl, ho6.lower (by omega), hb0.trans ((hb1.mono (by omega)).trans ((hb2.mono (by omega)).trans ((hb3.mono (by omega)).trans (((below_alloc w3 _).mono (by omega)).trans ((hb5.mono (by omega)).trans (hb6.mono (by omega)))))))⟩
  · have hp1 := Kp.mk (show checkD v h i = 2 from if_neg ok)
    have hp2 := Kp.mk (show bytesD v h i a b c = ([], 2) from if_neg ok)
    clear ok ha hb hc
    go_enter Try.func10, Try.ntmps10
    go_wp2_with fail
    have hb0 := below_alloc w (.cells #[.int .i64 v, .int .i64 h, .int .i64 i, .int .u8 a, .int .u8 b, .int .u8 c] 25)
    generalize hW : (w.alloc (.cells #[.int .i64 v, .int .i64 h, .int .i64 i, .int .u8 a, .int .u8 b, .int .u8 c] 25)) = w0 at *
    have hz0 : w0.heap.size = w.heap.size + 1 := by rw [← hW]; simp
    clear hW
    refine (refCheck_any v h i a b c w0).mono ?_
    rw [hp1.out]
    rintro e w1 ⟨rfl, hb1⟩
    go_wp2_with fail
    rw [hp2.out]
    go_ret2
    exact PairOf.nil 2 w (hb0.trans (hb1.mono (by omega)))
end Go.Proofs.Ytbgbajamjcohoaa.Oct
