/- The walk of DatumAgain. -/
import Derived.Test.YtbgbajamjcohoaaDatG
import Derived.Test.YtbgbajamjcohoaaDatY
namespace Go.Proofs.Ytbgbajamjcohoaa.Oct
open Go.RowKit
set_option linter.unusedVariables false

theorem parseD_bad {l : List Int} (h : (parseD l).2 ≠ 0) : parseD l = ((0, 0, 0, 0, 0, 0), (parseD l).2) := by
  unfold parseD at h ⊢
  split
  · rfl
  · rename_i h1
    rw [if_neg h1] at h
    split
    · rename_i h2
      rw [if_pos h2] at h
      simp at h
    · rfl

set_option maxRecDepth 100000 in
set_option maxHeartbeats 4000000 in
theorem datumAgain_any {w : World} {A A2 : Option Addr} {n c n2 c2 : Nat} {l lb : List Int} (h : Rd .u8 w w.heap.size A n c l) (hl : By l) (h2 : Rd .u8 w w.heap.size A2 n2 c2 lb) (hl2 : By lb) (hc2 : n2 ≤ 140737488351232) :
    Calls Try.prog 6 #[.slice A n c, .slice A2 n2 c2] w fun e w' => e = .returned (.bool true) ∧ Below w.heap.size w w' := by
  have H2 := Kp.mk h2
  clear h2
  go_enter Try.func6, Try.ntmps6
  go_wp2_with fail
  go_loopw [0, 5] (fun b i wr => ∃ (k : Nat) (lx : List Int) (A : Option Addr) (n c : Nat), k ≤ 2 ∧ i = .int .i64 k ∧ b = .slice A n c ∧ Rd .u8 wr wr.heap.size A n c lx ∧ By lx ∧ Below w.heap.size w wr) (fun _ i _ => 2 - (intOf i).toNat)
  case atStart => exact ⟨0, l, A, n, c, by omega, rfl, rfl, h, hl, Below.refl _ _⟩
  case round =>
    clear h hl
    obtain ⟨k, lx, A, n, c, hk, rfl, rfl, hr, hbx, hb⟩ := hrel
    have hzr := hb.size
    by_cases hlt : k < 2
    · have j1 : (k : Int) < 2 := by omega
      by_cases h0 : (parseD lx).2 = 0
      · obtain ⟨v, h, i, a, b, c', hp, ok, ha, hb', hc', hlx⟩ := parse_again lx hbx h0
        have Hp := Kp.mk hp
        have Hlx := Kp.mk hlx
        have Hb := Kp.mk (fun w => bytes_any v h i a b c' w ha hb' hc')
        have Hok := Kp.mk (show bytesD v h i a b c' = (frm 1 (dB v h i a b c'), 0) from if_pos ok)
        clear h0 hp hlx ok ha hb' hc'
        go_wp2_with fail
        refine (parse_any hr hbx (Nat.le_refl _)).mono ?_
        rw [Hp.out]
        rintro e w1 ⟨rfl, t1⟩
        have z1 := t1.size
        go_wp2_with fail
        have t2 := t1.trans ((below_alloc w1 (.cells #[.int .i64 v, .int .i64 h, .int .i64 i, .int .u8 a, .int .u8 b, .int .u8 c'] 25)).mono z1)
        generalize (w1.alloc (.cells #[.int .i64 v, .int .i64 h, .int .i64 i, .int .u8 a, .int .u8 b, .int .u8 c'] 25)) = w2 at *
        have z2 := t2.size
        refine (Hb.out w2).mono ?_
        rw [Hok.out]
        rintro e w3 ⟨A3, n3, c3, rfl, ho3, t3⟩
        have z3 := t3.size
        have r3 := ho3.rd
        have t23 := t2.trans (t3.mono z2)
        have rr := hr.below t23
        have HH := H2.out.below' (hb.trans (t23.mono hzr)) (Nat.le_refl _)
        have hT := hb.trans (t23.mono hzr)
        have zT := hT.size
        clear ho3
        go_wp2_with fail
        refine (eqBytes_any r3 rr (frm_by 1 _ (by omega) (dB_by _ _ _ _ _ _)) hbx).mono ?_
        rw [show decide (frm 1 (dB v h i a b c') = lx) = true from decide_eq_true Hlx.out.symm]
        rintro e w' ⟨rfl, rfl⟩
        go_wp2_with fail
        refine (seal_any 1 HH hl2 (by omega) (by omega)).mono ?_
        rintro e w4 ⟨A4, n4, c4, rfl, ho4, t4⟩
        have r4 := ho4.rd
        have hT4 := hT.trans (t4.mono (by omega))
        clear ho4
        go_wp2_with fail
        go_roundw
        case rel => exact ⟨k + 1, _, A4, n4, c4, by omega, by go_num, rfl, r4, sealP_by _ _ hl2, hT4⟩
        case measure => simp [intOf]; omega
      · have Hp := Kp.mk (parseD_bad h0)
        obtain ⟨x, hx⟩ : ∃ x, (parseD lx).2 = x := ⟨_, rfl⟩
        rw [hx] at Hp h0
        clear hx
        have hE := same_header 0 0 0
        go_wp2_with fail
        refine (parse_any hr hbx (Nat.le_refl _)).mono ?_
        rw [Hp.out]
        rintro e w1 ⟨rfl, t1⟩
        have z1 := t1.size
        have t2 := t1.trans ((below_alloc w1 (.cells #[.int .i64 0, .int .i64 0, .int .i64 0, .int .u8 0, .int .u8 0, .int .u8 0] 25)).mono z1)
        have hT := hb.trans (t2.mono hzr)
        have HH := H2.out.below' hT (Nat.le_refl _)
        have zT := hT.size
        go_wp2_with fail
        generalize (w1.alloc (.cells #[.int .i64 0, .int .i64 0, .int .i64 0, .int .u8 0, .int .u8 0, .int .u8 0] 25)) = w2 at *
        refine (seal_any 1 HH hl2 (by omega) (by omega)).mono ?_
        rintro e w4 ⟨A4, n4, c4, rfl, ho4, t4⟩
        have r4 := ho4.rd
        have hT4 := hT.trans (t4.mono (by omega))
        clear ho4
        go_wp2_with fail
        go_roundw
        case rel => exact ⟨k + 1, _, A4, n4, c4, by omega, by go_num, rfl, r4, sealP_by _ _ hl2, hT4⟩
        case measure => simp [intOf]; omega
    · obtain rfl : k = 2 := by omega
      go_wp2_with fail
      refine (worksD_any _).mono ?_
      rintro e w9 ⟨rfl, hb9⟩
      go_wp2_with fail
      go_ret
      exact ⟨rfl, hb.trans (hb9.mono hzr)⟩

theorem DatumAgain_walk (A0 : Option Addr) (n0 c0 : Nat) (z0 : List Int) (A1 : Option Addr) (n1 c1 : Nat) (z1 : List Int) (w : World) (w0 : Frame.IsRow .u8 w A0 n0 c0 z0) (re0 : c0 * 1 ≤ 140737488351232) (w1 : Frame.IsRow .u8 w A1 n1 c1 z1) (re1 : c1 * 1 ≤ 140737488351232) :
    Calls Try.prog 6 #[.slice A0 n0 c0, .slice A1 n1 c1] w fun e w' => e = .returned (.bool true) ∧ Below w.heap.size w w' :=
  datumAgain_any (Rd.of_row w0) (By.of_row w0) (Rd.of_row w1) (By.of_row w1) (by have := (Rd.of_row w1).le; omega)
end Go.Proofs.Ytbgbajamjcohoaa.Oct
