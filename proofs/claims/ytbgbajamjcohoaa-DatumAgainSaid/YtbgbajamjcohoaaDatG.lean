/- The chapter's datum: the function works of the laws of layer 3 answers true. -/
import Derived.Test.YtbgbajamjcohoaaDatF
namespace Go.Proofs.Ytbgbajamjcohoaa.Oct
open Go.RowKit
set_option linter.unusedVariables false

theorem bytes_doc : (bytesD 2 3 4 5 6 7) = (frm 1 (dB 2 3 4 5 6 7), 0) := if_pos (by decide)
theorem parse_two : parseD (sealP 2 (List.replicate 9 0)).1 = ((0, 0, 0, 0, 0, 0), 4) := by decide +kernel
theorem parse_more : parseD (sealP 1 (List.replicate 10 0)).1 = ((0, 0, 0, 0, 0, 0), 4) := by decide +kernel
theorem take_doc : (frm 1 (dB 2 3 4 5 6 7)).take 10 = [1, 2, 3, 0, 0, 0, 4, 5, 6, 7] := by decide +kernel

set_option maxRecDepth 100000 in
set_option maxHeartbeats 4000000 in
theorem worksD_any (w : World) :
    Calls Try.prog 14 #[] w fun e w' => e = .returned (.bool true) ∧ Below w.heap.size w w' := by
  have hm9 := fun w => run_zeros 9 (by omega) 9 rfl w
  have hm10 := fun w => run_zeros 10 (by omega) 10 rfl w
  go_enter Try.func14, Try.ntmps14
  go_wp2_with fail
  refine (bytes_any 2 3 4 5 6 7 w (by omega) (by omega) (by omega)).mono ?_
  rw [bytes_doc]
  rintro e w1 ⟨A1, n1, c1, rfl, ho1, t1⟩
  have hn1 : n1 = 12 := by have := ho1.len; rw [← this, frm_len, dB_len]
  subst hn1
  have z1 := t1.size
  go_wp2_with fail
  have z2' := below_alloc w1 (noughts 9)
  refine (seal_any 2 (rd_zeros 9 (by omega) w1) (zeros_by 9) (by simp) (by omega)).mono ?_
  rintro e w2 ⟨A2, n2, c2, rfl, ho2, t2⟩
  have t2' := z2'.trans (t2.mono (by simp))
  have z2 := t2'.size
  have hn2 : n2 ≤ 512 := by have := ho2.len; rw [show (sealP 2 (List.replicate 9 0)).1.length = 12 from by decide +kernel] at this; omega
  go_wp2_with fail
  have z3' := below_alloc w2 (noughts 10)
  refine (seal_any 1 (rd_zeros 10 (by omega) w2) (zeros_by 10) (by simp) (by omega)).mono ?_
  rintro e w3 ⟨A3, n3, c3, rfl, ho3, t3⟩
  have t3' := z3'.trans (t3.mono (by simp))
  have z3 := t3'.size
  have r2 := ho2.rd.below t3'
  clear hm9 hm10
  go_wp2_with fail
  refine (parse_any r2 (sealP_by _ _ (zeros_by 9)) (by omega)).mono ?_
  rw [parse_two]
  rintro e w4 ⟨rfl, t4⟩
  have z4 := t4.size
  go_wp2_with fail
  have t4' := t4.trans ((below_alloc w4 (.cells #[.int .i64 0, .int .i64 0, .int .i64 0, .int .u8 0, .int .u8 0, .int .u8 0] 25)).mono z4)
  have r3 := ho3.rd.below t4'
  generalize (w4.alloc (.cells #[.int .i64 0, .int .i64 0, .int .i64 0, .int .u8 0, .int .u8 0, .int .u8 0] 25)) = w5 at *
  have z5 := t4'.size
  refine (parse_any r3 (sealP_by _ _ (zeros_by 10)) (by omega)).mono ?_
  rw [parse_more]
  rintro e w6 ⟨rfl, t6⟩
  have z6 := t6.size
  have T6 : Below w1.heap.size w1 w6 := (t2'.trans (t3'.mono (by omega))).trans ((t4'.mono (by omega)).trans (t6.mono (by omega)))
  have r1 := (ho1.rd.below T6).pre 10 (by omega)
  have hcap := r1.le
  obtain ⟨b, off, rfl, hbB, _⟩ := r1.at_ (by omega)
  have T := t1.trans (T6.mono z1)
  clear r2 r3 ho1 ho2 ho3 t2 t3 t2' t3' t4 t4' t6 z2' z3'
  go_wp2_with fail
  have hlit := rd_lit .u8 (w6.alloc (.cells #[.int .i64 0, .int .i64 0, .int .i64 0, .int .u8 0, .int .u8 0, .int .u8 0] 25)) 5 [1, 2, 3, 0, 0, 0, 4, 5, 6, 7] (by simp [maxLen]) (w6.heap.size + 2) (by simp)
  rw [alloc_size] at hlit
  have hb2 := below_two w6 (.cells #[.int .i64 0, .int .i64 0, .int .i64 0, .int .u8 0, .int .u8 0, .int .u8 0] 25) (.cells ([1, 2, 3, 0, 0, 0, 4, 5, 6, 7].map (Value.int .u8)).toArray 5)
  refine (eqBytes_any (r1.below' hb2 (by omega)) hlit ((frm_by 1 _ (by omega) (dB_by _ _ _ _ _ _)).take _) (byOf rfl)).mono ?_
  rw [take_doc, show decide (([1, 2, 3, 0, 0, 0, 4, 5, 6, 7] : List Int) = [1, 2, 3, 0, 0, 0, 4, 5, 6, 7]) = true from rfl]
  rintro e w' ⟨rfl, rfl⟩
  go_wp2_with fail
  refine (check_any 201 0 0 0 0 0 _).mono ?_
  rw [show checkD 201 0 0 = 2 from by decide]
  rintro e w9 ⟨rfl, t9⟩
  go_wp2_with fail
  go_ret
  exact ⟨rfl, (T.trans (hb2.mono (by omega))).trans (t9.mono (by simp; omega))⟩
end Go.Proofs.Ytbgbajamjcohoaa.Oct
