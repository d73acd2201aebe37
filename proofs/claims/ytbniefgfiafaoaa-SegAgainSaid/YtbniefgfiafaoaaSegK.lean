/- The walk of SegAgain. -/
import Derived.Test.YtbniefgfiafaoaaSegF
import Derived.Test.YtbniefgfiafaoaaSegS
import Derived.Test.YtbniefgfiafaoaaSegD
namespace Go.Proofs.Ytbniefgfiafaoaa.Oct
open Go.RowKit
set_option linter.unusedVariables false
set_option linter.unusedSimpArgs false

set_option maxRecDepth 100000 in
set_option maxHeartbeats 8000000 in
theorem segAgain_any {w : World} {A A2 : Option Addr} {n c n2 c2 : Nat} {l lb : List Int} (h : Rd .u8 w w.heap.size A n c l) (hl : By l) (h2 : Rd .u8 w w.heap.size A2 n2 c2 lb) (hl2 : By lb) (hc2 : n2 ≤ 140737488351232) :
    Calls Try.prog 7 #[.slice A n c, .slice A2 n2 c2] w fun e w' => e = .returned (.bool true) ∧ Below w.heap.size w w' := by
  have H2 := Kp.mk h2
  clear h2
  go_enter Try.func7, Try.ntmps7
  go_wp2_with fail
  go_loopw [0, 5] (fun b i wr => ∃ (q : Nat) (lx : List Int) (A : Option Addr) (n c : Nat), q ≤ 2 ∧ i = .int .i64 q ∧ b = .slice A n c ∧ Rd .u8 wr wr.heap.size A n c lx ∧ By lx ∧ Below w.heap.size w wr) (fun _ i _ => 2 - (intOf i).toNat)
  case atStart => exact ⟨0, l, A, n, c, by omega, rfl, rfl, h, hl, Below.refl _ _⟩
  case round =>
    clear h hl
    obtain ⟨q, lx, Ab, nb, cb, hq, rfl, rfl, hr, hbx, hb⟩ := hrel
    have hzr := hb.size
    by_cases hlt : q < 2
    · have j1 : (q : Int) < 2 := by omega
      by_cases h0 : (parseS lx).2 = 0
      · obtain ⟨k, t, f, h, p, o, s, a, b, hp, ok, hby, hlx⟩ := parseS_again lx hbx h0
        have Hp := Kp.mk hp
        have Hlx := Kp.mk hlx
        have Hok := Kp.mk (show bytesS k t f h p o s a b = (frm 3 (sB k t f h p o s a b), 0) from if_pos ok)
        have Hfb := Kp.mk (frm_by 3 (sB k t f h p o s a b) (by omega) (sB_by k t f h p o s a hby))
        clear h0 hp hlx ok
        go_wp2_with fail
        refine (parseS_any hr hbx (Nat.le_refl _)).mono ?_
        rw [Hp.out]
        rintro e w1 ⟨A, n, c, rfl, ho1, t1⟩
        simp only at ho1
        have z1 := t1.size
        go_wp2_with fail
        have t2 := t1.trans ((below_alloc w1 (.cells #[.int .i64 k, .int .i64 t, .int .i64 f, .int .i64 h, .int .i64 p, .int .i64 o, .int .i64 s, .int .i64 a, .slice A n c] 24)).mono z1)
        have r2 := (ho1.alloc (.cells #[.int .i64 k, .int .i64 t, .int .i64 f, .int .i64 h, .int .i64 p, .int .i64 o, .int .i64 s, .int .i64 a, .slice A n c] 24)).rd
        generalize (w1.alloc (.cells #[.int .i64 k, .int .i64 t, .int .i64 f, .int .i64 h, .int .i64 p, .int .i64 o, .int .i64 s, .int .i64 a, .slice A n c] 24)) = w2 at *
        have z2 := t2.size
        refine (bytesS_any r2 (Nat.le_refl _) hby).mono ?_
        rw [Hok.out]
        rintro e w3 ⟨A3, n3, c3, rfl, ho3, t3⟩
        have z3 := t3.size
        have r3 := ho3.rd
        have t23 := t2.trans (t3.mono z2)
        have rr := hr.below t23
        have HH := H2.out.below' (hb.trans (t23.mono hzr)) (Nat.le_refl _)
        have hT := hb.trans (t23.mono hzr)
        have zT := hT.size
        clear ho3 ho1 r2
        go_wp2_with fail
        refine (eqBytes_any r3 rr Hfb.out hbx).mono ?_
        rw [show decide (frm 3 (sB k t f h p o s a b) = lx) = true from decide_eq_true Hlx.out.symm]
        rintro e w' ⟨rfl, rfl⟩
        go_wp2_with fail
        refine (seal_any 3 HH hl2 (by omega) (by omega)).mono ?_
        rintro e w4 ⟨A4, n4, c4, rfl, ho4, t4⟩
        have r4 := ho4.rd
        have hT4 := hT.trans (t4.mono (by omega))
        clear ho4
        go_wp2_with fail
        go_roundw
        case rel => exact ⟨q + 1, _, A4, n4, c4, by omega, by go_num, rfl, r4, sealP_by _ _ hl2, hT4⟩
        case measure => simp [intOf]; omega
      · have Hp := Kp.mk (parseS_bad h0)
        obtain ⟨x, hx⟩ : ∃ x, (parseS lx).2 = x := ⟨_, rfl⟩
        rw [hx] at Hp h0
        clear hx
        go_wp2_with fail
        refine (parseS_any hr hbx (Nat.le_refl _)).mono ?_
        rw [Hp.out]
        rintro e w1 ⟨A, n, c, rfl, ho1, t1⟩
        simp only [noSeg] at ho1
        have z1 := t1.size
        have t2 := t1.trans ((below_alloc w1 (.cells #[.int .i64 0, .int .i64 0, .int .i64 0, .int .i64 0, .int .i64 0, .int .i64 0, .int .i64 0, .int .i64 0, .slice A n c] 24)).mono z1)
        have hT := hb.trans (t2.mono hzr)
        have HH := H2.out.below' hT (Nat.le_refl _)
        have zT := hT.size
        have r2 := (ho1.alloc (.cells #[.int .i64 0, .int .i64 0, .int .i64 0, .int .i64 0, .int .i64 0, .int .i64 0, .int .i64 0, .int .i64 0, .slice A n c] 24)).rd
        unfold noSeg
        clear ho1
        go_wp2_with fail
        generalize (w1.alloc (.cells #[.int .i64 0, .int .i64 0, .int .i64 0, .int .i64 0, .int .i64 0, .int .i64 0, .int .i64 0, .int .i64 0, .slice A n c] 24)) = w2 at *
        refine (sameS_any r2 (Rd.nil .u8 w2 w2.heap.size) (Nat.le_refl _) (Nat.le_refl _) By.nil By.nil).mono ?_
        rw [sameS_self]
        rintro e w3 ⟨rfl, t3⟩
        replace HH := HH.below' t3 zT
        replace hT := hT.trans (t3.mono zT)
        replace zT := hT.size
        go_wp2_with fail
        refine (seal_any 3 HH hl2 (by omega) (by omega)).mono ?_
        rintro e w4 ⟨A4, n4, c4, rfl, ho4, t4⟩
        have r4 := ho4.rd
        have hT4 := hT.trans (t4.mono (by omega))
        clear ho4
        go_wp2_with fail
        go_roundw
        case rel => exact ⟨q + 1, _, A4, n4, c4, by omega, by go_num, rfl, r4, sealP_by _ _ hl2, hT4⟩
        case measure => simp [intOf]; omega
    · obtain rfl : q = 2 := by omega
      go_wp2_with fail
      refine (worksS_any _).mono ?_
      rintro e w9 ⟨rfl, hb9⟩
      go_wp2_with fail
      go_ret
      exact ⟨rfl, hb.trans (hb9.mono hzr)⟩

theorem SegAgain_walk (A0 : Option Addr) (n0 c0 : Nat) (z0 : List Int) (A1 : Option Addr) (n1 c1 : Nat) (z1 : List Int) (w : World) (w0 : Frame.IsRow .u8 w A0 n0 c0 z0) (re0 : c0 * 1 ≤ 140737488351232) (w1 : Frame.IsRow .u8 w A1 n1 c1 z1) (re1 : c1 * 1 ≤ 140737488351232) :
    Calls Try.prog 7 #[.slice A0 n0 c0, .slice A1 n1 c1] w fun e w' => e = .returned (.bool true) ∧ Below w.heap.size w w' :=
  segAgain_any (Rd.of_row w0) (By.of_row w0) (Rd.of_row w1) (By.of_row w1) (by have := (Rd.of_row w1).le; omega)
end Go.Proofs.Ytbniefgfiafaoaa.Oct
