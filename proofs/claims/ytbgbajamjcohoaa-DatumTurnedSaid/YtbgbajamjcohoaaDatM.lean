/- The walk of DatumTurned. -/
import Derived.Test.YtbgbajamjcohoaaDatJ
import Derived.Test.YtbgbajamjcohoaaDatX
namespace Go.Proofs.Ytbgbajamjcohoaa.Oct
open Go.RowKit
set_option linter.unusedVariables false

set_option maxRecDepth 100000 in
set_option maxHeartbeats 4000000 in
theorem datumTurned_any (v h i a b c at' x : Int) (w : World) (ha : 0 ≤ a ∧ a < 256) (hb : 0 ≤ b ∧ b < 256) (hc : 0 ≤ c ∧ c < 256) (hx : 0 ≤ x ∧ x < 256) :
    Calls Try.prog 7 #[.agg #[.int .i64 v, .int .i64 h, .int .i64 i, .int .u8 a, .int .u8 b, .int .u8 c], .int .i64 at', .int .u8 x] w fun e w' => e = .returned (.bool true) ∧ Below w.heap.size w w' := by
  have ok := made_ok v h i
  go_enter Try.func7, Try.ntmps7
  go_wp2_with fail
  have t0 := below_alloc w (.cells #[.int .i64 v, .int .i64 h, .int .i64 i, .int .u8 a, .int .u8 b, .int .u8 c] 25)
  generalize (w.alloc (.cells #[.int .i64 v, .int .i64 h, .int .i64 i, .int .u8 a, .int .u8 b, .int .u8 c] 25)) = w0 at *
  refine (made_any v h i a b c w0).mono ?_
  rintro e w1 ⟨rfl, t1⟩
  generalize Ser.bringP v 201 = v' at *
  generalize Ser.bringP h 13 = h' at *
  generalize Ser.bringP i 4294967296 = i' at *
  have z0 := t0.size
  have T1 := t0.trans (t1.mono z0)
  have z1 := T1.size
  go_wp2_with fail
  refine (bytes_any v' h' i' a b c w1 ha hb hc).mono ?_
  rw [show bytesD v' h' i' a b c = (frm 1 (dB v' h' i' a b c), 0) from if_pos ok]
  rintro e w2 ⟨A2, n2, c2, rfl, ho2, t2⟩
  have hl2 := ho2.len
  have hn2 : n2 = 12 := by rw [← hl2, frm_len, dB_len]
  subst hn2
  have T2 := T1.trans (t2.mono z1)
  have z2 := T2.size
  have hfby := frm_by 1 (dB v' h' i' a b c) (by omega) (dB_by _ _ _ _ _ _)
  have hturn := Kp.mk (fun j hj => parse_turned ok ha hb hc j hj x hx)
  have hbr := Ser.bringP_bd at' 12 (by omega)
  clear t0 t1 T1 t2
  go_wp2_with fail
  refine (Ser.bring_any at' 12 _ (by omega) (by omega)).mono ?_
  rintro e w' ⟨rfl, rfl⟩
  obtain ⟨j, hj⟩ : ∃ j : Nat, Ser.bringP at' 12 = j := ⟨(Ser.bringP at' 12).toNat, by omega⟩
  rw [hj] at hbr
  generalize Ser.bringP at' 12 = q at *
  subst hj
  have hj12 : j < 12 := by omega
  have hjI : (j : Int) < 12 := by omega
  generalize frm 1 (dB v' h' i' a b c) = f at *
  obtain ⟨g, rfl, hbg, hgw, hcell, hfr⟩ := own_cell ho2 j hj12
  have hxb := hfby.getD j
  have hset := own_set ho2 j hj12 (bits .xor .u8 (f.getD j 0) x)
  have hby3 := hfby.set j (xor_by _ x hxb hx)
  have T3 := T2.setCell (p := ⟨g, j, none⟩) (by simp; omega) (.int .u8 (bits .xor .u8 (f.getD j 0) x))
  have hT := hturn.out j hj12
  generalize f.getD j 0 = y at *
  obtain ⟨hx1, hx2⟩ := hxb
  have Hset := Kp.mk hset
  have HT3 := Kp.mk T3
  obtain ⟨hx3, hx4⟩ := hx
  have hbx : 0 ≤ x := hx3
  have HT := Kp.mk hT
  clear hset T3 T2 ho2 hturn hT hbr ok ha hb hc hl2
  go_wp2_with fail
  have z3 := HT3.out.size
  refine (parse_any Hset.out.rd hby3 (Nat.le_refl _)).mono ?_
  generalize parseD (f.set j (bits .xor .u8 y x)) = X at *
  obtain ⟨⟨q1, q2, q3, q4, q5, q6⟩, e0⟩ := X
  rintro e w4 ⟨rfl, t4⟩
  have T4 := Kp.mk (HT3.out.trans (t4.mono z3))
  have z4 := T4.out.size
  clear HT3 Hset t4
  have HT' := HT.out
  simp only at HT'
  by_cases hx0 : x = 0
  · subst hx0
    obtain rfl : e0 = 0 := HT'.2 rfl
    clear HT HT'
    go_wp2_with fail
    have T5 := Kp.mk (T4.out.trans ((below_alloc w4 (.cells #[.int .i64 q1, .int .i64 q2, .int .i64 q3, .int .u8 q4, .int .u8 q5, .int .u8 q6] 25)).mono z4))
    generalize (w4.alloc (.cells #[.int .i64 q1, .int .i64 q2, .int .i64 q3, .int .u8 q4, .int .u8 q5, .int .u8 q6] 25)) = w5 at *
    refine (worksD_any w5).mono ?_
    rintro e w9 ⟨rfl, t9⟩
    go_wp2_with fail
    go_ret
    exact ⟨rfl, T5.out.trans (t9.mono T5.out.size)⟩
  · have he0 : e0 ≠ 0 := fun h => hx0 (HT'.1 h)
    have k1 : (e0 == 0) = false := by simpa using he0
    have k2 : (x == 0) = false := by simpa using hx0
    clear HT HT' hx0 he0
    go_wp2_with fail
    have T5 := Kp.mk (T4.out.trans ((below_alloc w4 (.cells #[.int .i64 q1, .int .i64 q2, .int .i64 q3, .int .u8 q4, .int .u8 q5, .int .u8 q6] 25)).mono z4))
    generalize (w4.alloc (.cells #[.int .i64 q1, .int .i64 q2, .int .i64 q3, .int .u8 q4, .int .u8 q5, .int .u8 q6] 25)) = w5 at *
    refine (worksD_any w5).mono ?_
    rintro e w9 ⟨rfl, t9⟩
    go_wp2_with fail
    go_ret
    exact ⟨rfl, T5.out.trans (t9.mono T5.out.size)⟩

theorem DatumTurned_walk (zs : List Int) (at' x : Int) (w : World) (lz : zs.length = 6) (hw : ∀ p ∈ [IntKind.i64, .i64, .i64, .u8, .u8, .u8].zip zs, (Lit.int p.1 p.2).wf = true) (h1 : (Lit.int .i64 at').wf = true) (h2 : (Lit.int .u8 x).wf = true) :
    Calls Try.prog 7 #[.agg (List.zipWith Value.int [IntKind.i64, .i64, .i64, .u8, .u8, .u8] zs).toArray, .int .i64 at', .int .u8 x] w fun e w' => e = .returned (.bool true) ∧ Below w.heap.size w w' := by
  obtain ⟨v, h, i, a, b, c, rfl, ha, hb, hc, _, _, _⟩ := six_of zs lz hw
  have := Go.bounds_u8 h2
  exact datumTurned_any v h i a b c at' x w ha hb hc (by omega)
end Go.Proofs.Ytbgbajamjcohoaa.Oct
