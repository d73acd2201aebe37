/- The walks of ProbeBack, ProbeAgain and ProbeOnce. -/
import Derived.Test.YtikmgemfbdpfiaaPrbJ
import Derived.Test.YtikmgemfbdpfiaaPrbI
import Derived.Test.YtikmgemfbdpfiaaPrbX
namespace Go.Proofs.Ytikmgemfbdpfiaa.Oct
open Go.RowKit
set_option linter.unusedVariables false

set_option maxRecDepth 100000 in
set_option maxHeartbeats 4000000 in
theorem probeBack_any (f p t q n : Int) (w : World) :
    Calls Try.prog 6 #[.agg #[.int .i64 f, .int .i64 p, .int .i64 t, .int .i64 q, .int .i64 n]] w fun e w' => e = .returned (.bool true) ∧ Below w.heap.size w w' := by
  go_enter Try.func6, Try.ntmps6
  go_wp2_with fail
  have hb0 := below_alloc w (.cells #[.int .i64 f, .int .i64 p, .int .i64 t, .int .i64 q, .int .i64 n] 23)
  have hx0 : Nb 23 (w.alloc (.cells #[.int .i64 f, .int .i64 p, .int .i64 t, .int .i64 q, .int .i64 n] 23)) w.heap.size [f, p, t, q, n] := Nb.new 23 w [f, p, t, q, n]
  generalize (w.alloc (.cells #[.int .i64 f, .int .i64 p, .int .i64 t, .int .i64 q, .int .i64 n] 23)) = w0 at *
  have hz0 := hx0.lt
  refine (worksQ_any w0).mono ?_
  rintro e w1 ⟨rfl, hb1⟩
  have hx1 := hx0.below hb1 hz0
  have hT1 := hb0.trans (hb1.mono (by omega))
  clear hx0 hb0 hb1
  go_wp2_with fail
  go_loopw [3] (fun j wr => ∃ (k : Nat) (f p t q n : Int), k ≤ 2 ∧ j = .int .i64 k ∧ Nb 23 wr w.heap.size [f, p, t, q, n] ∧ Kp (k = 0 ∨ okQ f p t q n) ∧ Below w.heap.size w wr) (fun j _ => 2 - (intOf j).toNat)
  case atStart => exact ⟨0, f, p, t, q, n, by omega, rfl, hx1, Kp.mk (.inl rfl), hT1⟩
  case round =>
    clear hx1 hT1
    obtain ⟨k, f, p, t, q, n, hk, rfl, hx, hko, hT⟩ := hrel
    have hzr := hT.size
    have hlr := hx.lt
    by_cases hlt : k < 2
    · have j1 : (k : Int) < 2 := by omega
      by_cases ok : okQ f p t q n
      · have Hp := Kp.mk (parseQ_bytes ok)
        have Hok := Kp.mk (show bytesQ f p t q n = (frm 2 (qB f p t q n), 0) from if_pos ok)
        clear ok
        obtain ⟨d0, d1, d2, d3, d4⟩ := hx.five
        go_wp2_with fail
        refine (bytes_any f p t q n wr).mono ?_
        rw [Hok.out]
        rintro e w3 ⟨A3, n3, c3, rfl, ho3, t3⟩
        have r3 := ho3.rd
        have hx3 := hx.below t3 hlr
        have hT3 := hT.trans (t3.mono hzr)
        have z3 := t3.size
        clear ho3 d0 d1 d2 d3 d4
        go_wp2_with fail
        refine (parseQ_any r3 (frm_by 2 _ (by omega) (qB_by _ _ _ _ _)) (Nat.le_refl _)).mono ?_
        rw [Hp.out]
        rintro e w4 ⟨rfl, t4⟩
        have z4 := t4.size
        have t5 := t4.trans ((below_alloc w4 (.cells #[.int .i64 f, .int .i64 p, .int .i64 t, .int .i64 q, .int .i64 n] 23)).mono z4)
        have hx5 := hx3.below t5 (by omega)
        have hT5 := hT3.trans (t5.mono (by omega))
        obtain ⟨d0, d1, d2, d3, d4⟩ := hx5.five
        go_wp2_with fail
        generalize (w4.alloc (.cells #[.int .i64 f, .int .i64 p, .int .i64 t, .int .i64 q, .int .i64 n] 23)) = w5 at *
        refine (made_any f p t q n w5).mono ?_
        rintro e w8 ⟨rfl, t8⟩
        have hx8 := hx5.below t8 hx5.lt
        have hT8 := hT5.trans (t8.mono hT5.size)
        have Hok' := Kp.mk (mdQ_ok f p t q n)
        generalize mdF f = f' at *
        generalize mdP p = p' at *
        generalize mdT t = t' at *
        generalize mdQ t q = q' at *
        generalize mdN n = n' at *
        clear d0 d1 d2 d3 d4
        have hx9 := hx8.put5 (f' := f') (p' := p') (t' := t') (q' := q') (n' := n')
        have hT9 := put5_below hT8 (Nat.le_refl _) f' p' t' q' n'
        have hf := hx8.free
        obtain ⟨d0, d1, d2, d3, d4⟩ := hx8.five
        go_wp2_with fail
        go_roundw
        case rel => exact ⟨k + 1, f', p', t', q', n', by omega, by go_num, hx9, Kp.mk (.inr Hok'.out), hT9⟩
        case measure => simp [intOf]; omega
      · have hk0 : k = 0 := by
          rcases hko.out with h | h
          · exact h
          · exact absurd h ok
        subst hk0
        have Hok := Kp.mk (show bytesQ f p t q n = ([], 2) from if_neg ok)
        have Hck := Kp.mk (show checkQ f p t q n = 2 from if_neg ok)
        clear ok hko
        obtain ⟨d0, d1, d2, d3, d4⟩ := hx.five
        go_wp2_with fail
        refine (bytes_any f p t q n wr).mono ?_
        rw [Hok.out]
        rintro e w3 ⟨A3, n3, c3, rfl, ho3, t3⟩
        have hn3 : n3 = 0 := by have := ho3.len; simpa using this.symm
        subst hn3
        have hx3 := hx.below t3 hlr
        have hT3 := hT.trans (t3.mono hzr)
        have z3 := t3.size
        clear ho3 d0 d1 d2 d3 d4
        obtain ⟨d0, d1, d2, d3, d4⟩ := hx3.five
        go_wp2_with fail
        refine (check_any f p t q n w3).mono ?_
        rw [Hck.out]
        rintro e w4 ⟨rfl, t4⟩
        have hx4 := hx3.below t4 (by omega)
        have hT4 := hT3.trans (t4.mono (by omega))
        clear d0 d1 d2 d3 d4
        obtain ⟨d0, d1, d2, d3, d4⟩ := hx4.five
        go_wp2_with fail
        refine (made_any f p t q n w4).mono ?_
        rintro e w8 ⟨rfl, t8⟩
        have hx8 := hx4.below t8 hx4.lt
        have hT8 := hT4.trans (t8.mono hT4.size)
        have Hok' := Kp.mk (mdQ_ok f p t q n)
        generalize mdF f = f' at *
        generalize mdP p = p' at *
        generalize mdT t = t' at *
        generalize mdQ t q = q' at *
        generalize mdN n = n' at *
        clear d0 d1 d2 d3 d4
        have hx9 := hx8.put5 (f' := f') (p' := p') (t' := t') (q' := q') (n' := n')
        have hT9 := put5_below hT8 (Nat.le_refl _) f' p' t' q' n'
        have hf := hx8.free
        obtain ⟨d0, d1, d2, d3, d4⟩ := hx8.five
        go_wp2_with fail
        go_roundw
        case rel => exact ⟨1, f', p', t', q', n', by omega, by go_num, hx9, Kp.mk (.inr Hok'.out), hT9⟩
        case measure => simp [intOf]
    · obtain rfl : k = 2 := by omega
      go_wp2_with fail
      go_ret
      exact ⟨rfl, hT⟩

theorem ProbeBack_walk (zs : List Int) (w : World) (lz : zs.length = 5) (hw : ∀ p ∈ [IntKind.i64, .i64, .i64, .i64, .i64].zip zs, (Lit.int p.1 p.2).wf = true) :
    Calls Try.prog 6 #[.agg (List.zipWith Value.int [IntKind.i64, .i64, .i64, .i64, .i64] zs).toArray] w fun e w' => e = .returned (.bool true) ∧ Below w.heap.size w w' := by
  obtain ⟨f, p, t, q, n, rfl, _⟩ := five_of zs lz hw
  exact probeBack_any f p t q n w

set_option maxRecDepth 100000 in
set_option maxHeartbeats 4000000 in
theorem probeAgain_any {w : World} {A A2 : Option Addr} {n c n2 c2 : Nat} {l lb : List Int} (h : Rd .u8 w w.heap.size A n c l) (hl : By l) (h2 : Rd .u8 w w.heap.size A2 n2 c2 lb) (hl2 : By lb) (hc2 : n2 ≤ 140737488351232) :
    Calls Try.prog 7 #[.slice A n c, .slice A2 n2 c2] w fun e w' => e = .returned (.bool true) ∧ Below w.heap.size w w' := by
  have H2 := Kp.mk h2
  clear h2
  go_enter Try.func7, Try.ntmps7
  go_wp2_with fail
  go_loopw [0, 5] (fun b i wr => ∃ (k : Nat) (lx : List Int) (A : Option Addr) (n c : Nat), k ≤ 2 ∧ i = .int .i64 k ∧ b = .slice A n c ∧ Rd .u8 wr wr.heap.size A n c lx ∧ By lx ∧ Below w.heap.size w wr) (fun _ i _ => 2 - (intOf i).toNat)
  case atStart => exact ⟨0, l, A, n, c, by omega, rfl, rfl, h, hl, Below.refl _ _⟩
  case round =>
    clear h hl
    obtain ⟨k, lx, A, n, c, hk, rfl, rfl, hr, hbx, hb⟩ := hrel
    have hzr := hb.size
    by_cases hlt : k < 2
    · have j1 : (k : Int) < 2 := by omega
      by_cases h0 : (parseQ lx).2 = 0
      · obtain ⟨q1, q2, q3, q4, q5, hp, ok, hlx⟩ := parseQ_again lx hbx h0
        have Hp := Kp.mk hp
        have Hlx := Kp.mk hlx
        have Hok := Kp.mk (show bytesQ q1 q2 q3 q4 q5 = (frm 2 (qB q1 q2 q3 q4 q5), 0) from if_pos ok)
        clear h0 hp hlx ok
        go_wp2_with fail
        refine (parseQ_any hr hbx (Nat.le_refl _)).mono ?_
        rw [Hp.out]
        rintro e w1 ⟨rfl, t1⟩
        have z1 := t1.size
        have t2 := t1.trans ((below_alloc w1 (.cells #[.int .i64 q1, .int .i64 q2, .int .i64 q3, .int .i64 q4, .int .i64 q5] 23)).mono z1)
        have b2 : Nb 23 (w1.alloc (.cells #[.int .i64 q1, .int .i64 q2, .int .i64 q3, .int .i64 q4, .int .i64 q5] 23)) w1.heap.size [q1, q2, q3, q4, q5] := Nb.new 23 w1 [q1, q2, q3, q4, q5]
        have hT := hb.trans (t2.mono hzr)
        have r2 := hr.below t2
        obtain ⟨d0, d1, d2, d3, d4⟩ := b2.five
        go_wp2_with fail
        generalize (w1.alloc (.cells #[.int .i64 q1, .int .i64 q2, .int .i64 q3, .int .i64 q4, .int .i64 q5] 23)) = w2 at *
        refine (bytes_any q1 q2 q3 q4 q5 w2).mono ?_
        rw [Hok.out]
        rintro e w3 ⟨A3, n3, c3, rfl, ho3, t3⟩
        have z3 := t3.size
        have zT := hT.size
        have hT3 := hT.trans (t3.mono zT)
        have r3 := r2.below' t3 (by have := t2.size; omega)
        have q3' := ho3.rd
        clear ho3 d0 d1 d2 d3 d4 b2
        go_wp2_with fail
        refine (eqBytes_any q3' r3 (frm_by 2 _ (by omega) (qB_by _ _ _ _ _)) hbx).mono ?_
        rw [show decide (frm 2 (qB q1 q2 q3 q4 q5) = lx) = true from by rw [← Hlx.out]; simp]
        rintro e w' ⟨rfl, rfl⟩
        have HH := H2.out.below' hT3 (Nat.le_refl _)
        have zT3 := hT3.size
        go_wp2_with fail
        refine (seal_any 2 HH hl2 (by omega) (by omega)).mono ?_
        rintro e w4 ⟨A4, n4, c4, rfl, ho4, t4⟩
        have r4 := ho4.rd
        have hT4 := hT3.trans (t4.mono (by omega))
        clear ho4
        go_wp2_with fail
        go_roundw
        case rel => exact ⟨k + 1, _, A4, n4, c4, by omega, by go_num, rfl, r4, sealP_by _ _ hl2, hT4⟩
        case measure => simp [intOf]; omega
      · have Hp := Kp.mk (parseQ_bad h0)
        obtain ⟨x, hx⟩ : ∃ x, (parseQ lx).2 = x := ⟨_, rfl⟩
        rw [hx] at Hp h0
        clear hx
        go_wp2_with fail
        refine (parseQ_any hr hbx (Nat.le_refl _)).mono ?_
        rw [Hp.out]
        rintro e w1 ⟨rfl, t1⟩
        have z1 := t1.size
        have t2 := t1.trans ((below_alloc w1 (.cells #[.int .i64 0, .int .i64 0, .int .i64 0, .int .i64 0, .int .i64 0] 23)).mono z1)
        have b2 : Nb 23 (w1.alloc (.cells #[.int .i64 0, .int .i64 0, .int .i64 0, .int .i64 0, .int .i64 0] 23)) w1.heap.size [0, 0, 0, 0, 0] := Nb.new 23 w1 [0, 0, 0, 0, 0]
        have hT := hb.trans (t2.mono hzr)
        have HH := H2.out.below' hT (Nat.le_refl _)
        have zT := hT.size
        obtain ⟨d0, d1, d2, d3, d4⟩ := b2.five
        go_wp2_with fail
        generalize (w1.alloc (.cells #[.int .i64 0, .int .i64 0, .int .i64 0, .int .i64 0, .int .i64 0] 23)) = w2 at *
        refine (seal_any 2 HH hl2 (by omega) (by omega)).mono ?_
        rintro e w4 ⟨A4, n4, c4, rfl, ho4, t4⟩
        have r4 := ho4.rd
        have hT4 := hT.trans (t4.mono (by omega))
        clear ho4
        go_wp2_with fail
        go_roundw
        case rel => exact ⟨k + 1, _, A4, n4, c4, by omega, by go_num, rfl, r4, sealP_by _ _ hl2, hT4⟩
        case measure => simp [intOf]; omega
    · obtain rfl : k = 2 := by omega
      go_wp2_with fail
      refine (worksQ_any _).mono ?_
      rintro e w9 ⟨rfl, hb9⟩
      go_wp2_with fail
      go_ret
      exact ⟨rfl, hb.trans (hb9.mono hzr)⟩

theorem ProbeAgain_walk (A0 : Option Addr) (n0 c0 : Nat) (z0 : List Int) (A1 : Option Addr) (n1 c1 : Nat) (z1 : List Int) (w : World) (w0 : Frame.IsRow .u8 w A0 n0 c0 z0) (re0 : c0 * 1 ≤ 140737488351232) (w1 : Frame.IsRow .u8 w A1 n1 c1 z1) (re1 : c1 * 1 ≤ 140737488351232) :
    Calls Try.prog 7 #[.slice A0 n0 c0, .slice A1 n1 c1] w fun e w' => e = .returned (.bool true) ∧ Below w.heap.size w w' :=
  probeAgain_any (Rd.of_row w0) (By.of_row w0) (Rd.of_row w1) (By.of_row w1) (by have := (Rd.of_row w1).le; omega)
end Go.Proofs.Ytikmgemfbdpfiaa.Oct
