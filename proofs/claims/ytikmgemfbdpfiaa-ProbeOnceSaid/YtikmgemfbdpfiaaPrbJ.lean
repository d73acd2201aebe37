/- The chapter's probes: the function works of the laws of layer 4 answers true. -/
import Derived.Test.YtikmgemfbdpfiaaPrbH
namespace Go.Proofs.Ytikmgemfbdpfiaa.Oct
open Go.RowKit
set_option linter.unusedVariables false

theorem bytesQ_doc : bytesQ 1 2 3 4 258 = (frm 2 (qB 1 2 3 4 258), 0) := if_pos (by decide)
theorem takeQ_doc : (frm 2 (qB 1 2 3 4 258)).take 7 = [2, 1, 2, 3, 4, 1, 2] := by decide +kernel
theorem found_doc : foundQ 1 2 0 0 0 3 4 = ((1, 2, 3, 4, 0), 0) := by decide
theorem found_again : foundQ 1 2 3 4 0 3 4 = ((0, 0, 0, 0, 0), 180) := by decide

set_option maxRecDepth 100000 in
set_option maxHeartbeats 4000000 in
theorem worksQ_any (w : World) :
    Calls Try.prog 15 #[] w fun e w' => e = .returned (.bool true) ∧ Below w.heap.size w w' := by
  go_enter Try.func15, Try.ntmps15
  go_wp2_with fail
  refine (bytes_any 1 2 3 4 258 w).mono ?_
  rw [bytesQ_doc]
  rintro e w1 ⟨A1, n1, c1, rfl, ho1, t1⟩
  have hn1 : n1 = 9 := by have := ho1.len; rw [← this, frm_len, qB_len]
  subst hn1
  have z1 := t1.size
  go_wp2_with fail
  refine (found_any 1 2 0 0 0 3 4 w1).mono ?_
  rw [found_doc]
  rintro e w2 ⟨rfl, t2⟩
  have z2 := t2.size
  go_wp2_with fail
  have b3 : Nb 23 (w2.alloc (.cells #[.int .i64 1, .int .i64 2, .int .i64 3, .int .i64 4, .int .i64 0] 23)) w2.heap.size [1, 2, 3, 4, 0] := Nb.new 23 w2 [1, 2, 3, 4, 0]
  have t3 := t2.trans ((below_alloc w2 (.cells #[.int .i64 1, .int .i64 2, .int .i64 3, .int .i64 4, .int .i64 0] 23)).mono z2)
  generalize (w2.alloc (.cells #[.int .i64 1, .int .i64 2, .int .i64 3, .int .i64 4, .int .i64 0] 23)) = w3 at *
  have z3 := b3.lt
  refine (found_any 1 2 3 4 0 3 4 w3).mono ?_
  rw [found_again]
  rintro e w4 ⟨rfl, t4⟩
  have z4 := t4.size
  have t5 := t4.trans ((below_alloc w4 (.cells #[.int .i64 0, .int .i64 0, .int .i64 0, .int .i64 0, .int .i64 0] 23)).mono z4)
  have b5 := b3.below t5 z3
  have T5 : Below w1.heap.size w1 (w4.alloc (.cells #[.int .i64 0, .int .i64 0, .int .i64 0, .int .i64 0, .int .i64 0] 23)) := t3.trans (t5.mono (by omega))
  have r5 := (ho1.rd.below T5).pre 7 (by omega)
  have hcap := r5.le
  obtain ⟨b, off, rfl, hbB, _⟩ := r5.at_ (by omega)
  have T := t1.trans (T5.mono z1)
  clear ho1 t2 t3 t4 t5 T5 t1 b3
  have zT := T.size
  go_wp2_with fail
  have hlit := rd_lit .u8 (w4.alloc (.cells #[.int .i64 0, .int .i64 0, .int .i64 0, .int .i64 0, .int .i64 0] 23)) 5 [2, 1, 2, 3, 4, 1, 2] (by simp [maxLen]) (w4.heap.size + 2) (by simp)
  rw [alloc_size] at hlit
  have hb6 := below_alloc (w4.alloc (.cells #[.int .i64 0, .int .i64 0, .int .i64 0, .int .i64 0, .int .i64 0] 23)) (.cells ([2, 1, 2, 3, 4, 1, 2].map (Value.int .u8)).toArray 5)
  have b6 := b5.below hb6 (by simp; omega)
  obtain ⟨d0, d1, d2, d3, d4⟩ := b6.five
  have T6 := T.trans (hb6.mono zT)
  refine (eqBytes_any (r5.below' hb6 (by simp; omega)) hlit ((frm_by 2 _ (by omega) (qB_by _ _ _ _ _)).take _) (byOf rfl)).mono ?_
  rw [takeQ_doc, show decide (([2, 1, 2, 3, 4, 1, 2] : List Int) = [2, 1, 2, 3, 4, 1, 2]) = true from rfl]
  rintro e w' ⟨rfl, rfl⟩
  clear hlit r5 b5 b6 hb6 T hcap hbB
  generalize ((w4.alloc (.cells #[.int .i64 0, .int .i64 0, .int .i64 0, .int .i64 0, .int .i64 0] 23)).alloc (.cells ([2, 1, 2, 3, 4, 1, 2].map (Value.int .u8)).toArray 5)) = w6 at *
  have z6 := T6.size
  go_wp2_with fail
  refine (check_any 0 1 0 0 0 _).mono ?_
  rw [show checkQ 0 1 0 0 0 = 2 from by decide]
  rintro e w7 ⟨rfl, t7⟩
  have z7 := t7.size
  go_wp2_with fail
  refine (check_any 1 1 3 0 0 _).mono ?_
  rw [show checkQ 1 1 3 0 0 = 2 from by decide]
  rintro e w8 ⟨rfl, t8⟩
  go_wp2_with fail
  go_ret
  exact ⟨rfl, (T6.trans (t7.mono z6)).trans (t8.mono (by omega))⟩
end Go.Proofs.Ytikmgemfbdpfiaa.Oct
