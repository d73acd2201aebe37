/- The walk of DatumBack. -/
import Derived.Test.YtbgbajamjcohoaaDatJ
import Derived.Test.YtbgbajamjcohoaaDatX
namespace Go.Proofs.Ytbgbajamjcohoaa.Oct
open Go.RowKit
set_option linter.unusedVariables false

set_option maxRecDepth 100000 in
set_option maxHeartbeats 4000000 in
theorem datumBack_any (v h i a b c : Int) (w : World) (ha : 0 ≤ a ∧ a < 256) (hb : 0 ≤ b ∧ b < 256) (hc : 0 ≤ c ∧ c < 256) :
    Calls Try.prog 5 #[.agg #[.int .i64 v, .int .i64 h, .int .i64 i, .int .u8 a, .int .u8 b, .int .u8 c]] w fun e w' => e = .returned (.bool true) ∧ Below w.heap.size w w' := by
  have H1 := Kp.mk (fun v h i w => bytes_any v h i a b c w ha hb hc)
  have H2 := Kp.mk (fun v h i ok => @parse_bytes v h i a b c ok ha hb hc)
  have hE := same_header a b c
  clear ha hb hc
  go_enter Try.func5, Try.ntmps5
  go_wp2_with fail
  have hb0 := below_alloc w (.cells #[.int .i64 v, .int .i64 h, .int .i64 i, .int .u8 a, .int .u8 b, .int .u8 c] 25)
  have hx0 := Bk.new w v h i a b c
  generalize (w.alloc (.cells #[.int .i64 v, .int .i64 h, .int .i64 i, .int .u8 a, .int .u8 b, .int .u8 c] 25)) = w0 at *
  have hz0 := hx0.lt
  refine (worksD_any w0).mono ?_
  rintro e w1 ⟨rfl, hb1⟩
  have hx1 := hx0.below hb1 hz0
  have hT1 := hb0.trans (hb1.mono (by omega))
  clear hx0 hb0 hb1
  go_wp2_with fail
  go_loopw [3] (fun j wr => ∃ (k : Nat) (v h i : Int), k ≤ 2 ∧ j = .int .i64 k ∧ Bk wr w.heap.size v h i a b c ∧ Kp (k = 0 ∨ okD v h i) ∧ Below w.heap.size w wr) (fun j _ => 2 - (intOf j).toNat)
  case atStart => exact ⟨0, v, h, i, by omega, rfl, hx1, Kp.mk (.inl rfl), hT1⟩
  case round =>
    clear hx1 hT1
    obtain ⟨k, v, h, i, hk, rfl, hx, hko, hT⟩ := hrel
    have hzr := hT.size
    have hlr := hx.lt
    by_cases hlt : k < 2
    · have j1 : (k : Int) < 2 := by omega
      by_cases ok : okD v h i
      · have Hp := Kp.mk (H2.out v h i ok)
        have Hok := Kp.mk (show bytesD v h i a b c = (frm 1 (dB v h i a b c), 0) from if_pos ok)
        clear ok
        obtain ⟨d0, d1, d2, d3, d4, d5⟩ := hx.cells
        go_wp2_with fail
        refine (H1.out v h i wr).mono ?_
        rw [Hok.out]
        rintro e w3 ⟨A3, n3, c3, rfl, ho3, t3⟩
        have r3 := ho3.rd
        have hx3 := hx.below t3 hlr
        have hT3 := hT.trans (t3.mono hzr)
        have z3 := t3.size
        clear ho3 d0 d1 d2 d3 d4 d5
        go_wp2_with fail
        refine (parse_any r3 (frm_by 1 _ (by omega) (dB_by _ _ _ _ _ _)) (Nat.le_refl _)).mono ?_
        rw [Hp.out]
        rintro e w4 ⟨rfl, t4⟩
        have z4 := t4.size
        have t5 := t4.trans ((below_alloc w4 (.cells #[.int .i64 v, .int .i64 h, .int .i64 i, .int .u8 a, .int .u8 b, .int .u8 c] 25)).mono z4)
        have hx5 := hx3.below t5 (by omega)
        have hT5 := hT3.trans (t5.mono (by omega))
        have d0' := hx5
        have hf := hx5.free
        obtain ⟨d0, d1, d2, d3, d4, d5⟩ := hx5.cells
        go_wp2_with fail
        generalize (w4.alloc (.cells #[.int .i64 v, .int .i64 h, .int .i64 i, .int .u8 a, .int .u8 b, .int .u8 c] 25)) = w5 at *
        refine (made_any v h i a b c w5).mono ?_
        rintro e w8 ⟨rfl, t8⟩
        have hx8 := hx5.below t8 (by have := hx5.lt; omega)
        have hT8 := hT5.trans (t8.mono (by have := hT5.size; omega))
        have hok' := made_ok v h i
        generalize Ser.bringP v 201 = v' at *
        generalize Ser.bringP h 13 = h' at *
        generalize Ser.bringP i 4294967296 = i' at *
        have Hok' := Kp.mk hok'
        clear hok' d0 d1 d2 d3 d4 d5 hf d0'
        have hx9 := hx8.put v' h' i' a b c
        have hT9 := putD_below hT8 (Nat.le_refl _) v' h' i' a b c
        have hf := hx8.free
        obtain ⟨d0, d1, d2, d3, d4, d5⟩ := hx8.cells
        go_wp2_with fail
        go_roundw
        case rel => exact ⟨k + 1, v', h', i', by omega, by go_num, hx9, Kp.mk (.inr Hok'.out), hT9⟩
        case measure => simp [intOf]; omega
      · have hk0 : k = 0 := by
          rcases hko.out with h | h
          · exact h
          · exact absurd h ok
        subst hk0
        have Hok := Kp.mk (show bytesD v h i a b c = ([], 2) from if_neg ok)
        have Hck := Kp.mk (show checkD v h i = 2 from if_neg ok)
        clear ok hko
        obtain ⟨d0, d1, d2, d3, d4, d5⟩ := hx.cells
        go_wp2_with fail
        refine (H1.out v h i wr).mono ?_
        rw [Hok.out]
        rintro e w3 ⟨A3, n3, c3, rfl, ho3, t3⟩
        have hn3 : n3 = 0 := by have := ho3.len; simpa using this.symm
        subst hn3
        have hx3 := hx.below t3 hlr
        have hT3 := hT.trans (t3.mono hzr)
        have z3 := t3.size
        clear ho3 d0 d1 d2 d3 d4 d5
        obtain ⟨d0, d1, d2, d3, d4, d5⟩ := hx3.cells
        go_wp2_with fail
        refine (check_any v h i a b c w3).mono ?_
        rw [Hck.out]
        rintro e w4 ⟨rfl, t4⟩
        have hx4 := hx3.below t4 (by omega)
        have hT4 := hT3.trans (t4.mono (by omega))
        clear d0 d1 d2 d3 d4 d5
        have d0' := hx4
        have hf := hx4.free
        obtain ⟨d0, d1, d2, d3, d4, d5⟩ := hx4.cells
        go_wp2_with fail
        refine (made_any v h i a b c w4).mono ?_
        rintro e w8 ⟨rfl, t8⟩
        have hx8 := hx4.below t8 (by have := hx4.lt; omega)
        have hT8 := hT4.trans (t8.mono (by have := hT4.size; omega))
        have hok' := made_ok v h i
        generalize Ser.bringP v 201 = v' at *
        generalize Ser.bringP h 13 = h' at *
        generalize Ser.bringP i 4294967296 = i' at *
        have Hok' := Kp.mk hok'
        clear hok' d0 d1 d2 d3 d4 d5 hf d0'
        have hx9 := hx8.put v' h' i' a b c
        have hT9 := putD_below hT8 (Nat.le_refl _) v' h' i' a b c
        have hf := hx8.free
        obtain ⟨d0, d1, d2, d3, d4, d5⟩ := hx8.cells
        go_wp2_with fail
        go_roundw
        case rel => exact ⟨1, v', h', i', by omega, by go_num, hx9, Kp.mk (.inr Hok'.out), hT9⟩
        case measure => simp [intOf]
    · obtain rfl : k = 2 := by omega
      go_wp2_with fail
      go_ret
      exact ⟨rfl, hT⟩

theorem DatumBack_walk (zs : List Int) (w : World) (lz : zs.length = 6) (hw : ∀ p ∈ [IntKind.i64, .i64, .i64, .u8, .u8, .u8].zip zs, (Lit.int p.1 p.2).wf = true) :
    Calls Try.prog 5 #[.agg (List.zipWith Value.int [IntKind.i64, .i64, .i64, .u8, .u8, .u8] zs).toArray] w fun e w' => e = .returned (.bool true) ∧ Below w.heap.size w w' := by
  obtain ⟨v, h, i, a, b, c, rfl, ha, hb, hc, _, _, _⟩ := six_of zs lz hw
  exact datumBack_any v h i a b c w ha hb hc
end Go.Proofs.Ytbgbajamjcohoaa.Oct
