/- The walk of SegBack. -/
import Derived.Test.YtbniefgfiafaoaaSegF
import Derived.Test.YtbniefgfiafaoaaSegS
import Derived.Test.YtbniefgfiafaoaaSegD
import Derived.Test.YtbniefgfiafaoaaSegM
namespace Go.Proofs.Ytbniefgfiafaoaa.Oct
open Go.RowKit
set_option linter.unusedVariables false
set_option linter.unusedSimpArgs false

set_option maxRecDepth 100000 in
set_option maxHeartbeats 8000000 in
theorem segBack_any (k t f h p o s a : Int) (A : Option Addr) (n c : Nat) (l : List Int) (w : World) (hr : Rd .u8 w w.heap.size A n c l) (hl : By l) :
    Calls Try.prog 6 #[.agg #[.int .i64 k, .int .i64 t, .int .i64 f, .int .i64 h, .int .i64 p, .int .i64 o, .int .i64 s, .int .i64 a, .slice A n c]] w fun e w' => e = .returned (.bool true) ∧ Below w.heap.size w w' := by
  go_enter Try.func6, Try.ntmps6
  go_wp2_with fail
  have hb0 := below_alloc w (.cells #[.int .i64 k, .int .i64 t, .int .i64 f, .int .i64 h, .int .i64 p, .int .i64 o, .int .i64 s, .int .i64 a, .slice A n c] 24)
  have hx0 : Sg (w.alloc (.cells #[.int .i64 k, .int .i64 t, .int .i64 f, .int .i64 h, .int .i64 p, .int .i64 o, .int .i64 s, .int .i64 a, .slice A n c] 24)) w.heap.size [k, t, f, h, p, o, s, a] (.slice A n c) := Sg.new w [k, t, f, h, p, o, s, a] (.slice A n c)
  have r0 := (hr.below hb0).more (Nat.le_succ w.heap.size)
  have hz0 : (w.alloc (.cells #[.int .i64 k, .int .i64 t, .int .i64 f, .int .i64 h, .int .i64 p, .int .i64 o, .int .i64 s, .int .i64 a, .slice A n c] 24)).heap.size = w.heap.size + 1 := by simp
  generalize (w.alloc (.cells #[.int .i64 k, .int .i64 t, .int .i64 f, .int .i64 h, .int .i64 p, .int .i64 o, .int .i64 s, .int .i64 a, .slice A n c] 24)) = w0 at *
  refine (worksS_any w0).mono ?_
  rintro e w1 ⟨rfl, hb1⟩
  have hx1 := hx0.below hb1 (by omega)
  have r1 : Rd .u8 w1 w1.heap.size A n c l := (r0.below' hb1 (by omega)).more (by have := hb1.size; omega)
  have hT1 := hb0.trans (hb1.mono (by omega))
  clear hx0 hb0 hb1 r0 hr
  go_wp2_with fail
  go_loopw [3] (fun j wr => ∃ (q : Nat) (k t f h p o s a : Int) (A : Option Addr) (n c : Nat) (l : List Int), q ≤ 2 ∧ j = .int .i64 q ∧ Sg wr w.heap.size [k, t, f, h, p, o, s, a] (.slice A n c) ∧ Rd .u8 wr wr.heap.size A n c l ∧ By l ∧ Kp (q = 0 ∨ okS k t f h p o s a l.length) ∧ Below w.heap.size w wr) (fun j _ => 2 - (intOf j).toNat)
  case atStart => exact ⟨0, k, t, f, h, p, o, s, a, A, n, c, l, by omega, rfl, hx1, r1, hl, Kp.mk (.inl rfl), hT1⟩
  case round =>
    clear hx1 hT1 r1 hl
    obtain ⟨q, k, t, f, h, p, o, s, a, A, n, c, l, hq, rfl, hx, hr, hl, hko, hT⟩ := hrel
    have hzr := hT.size
    have hlr := hx.lt
    have hln := hr.len
    by_cases hlt : q < 2
    · have j1 : (q : Int) < 2 := by omega
      by_cases ok : okS k t f h p o s a l.length
      · have Hp := Kp.mk (parseS_bytes ok hl)
        have Hok := Kp.mk (show bytesS k t f h p o s a l = (frm 3 (sB k t f h p o s a l), 0) from if_pos ok)
        have Hck := Kp.mk (show checkS k t f h p o s a n = 0 by rw [← hln]; exact if_pos ok)
        have Hfb := Kp.mk (frm_by 3 (sB k t f h p o s a l) (by omega) (sB_by k t f h p o s a hl))
        clear ok hln
        obtain ⟨d0, d1, d2, d3, d4, d5, d6, d7, d8⟩ := hx.nine
        go_wp2_with fail
        refine (bytesS_any hr (Nat.le_refl _) hl).mono ?_
        rw [Hok.out]
        rintro e w3 ⟨A3, n3, c3, rfl, ho3, t3⟩
        have r3 := ho3.rd
        have hx3 := hx.below t3 hlr
        have hr3 := hr.below t3
        have hT3 := hT.trans (t3.mono hzr)
        have z3 := t3.size
        clear ho3 d0 d1 d2 d3 d4 d5 d6 d7 d8
        go_wp2_with fail
        refine (parseS_any r3 Hfb.out (Nat.le_refl _)).mono ?_
        rw [Hp.out]
        rintro e w4 ⟨A4, n4, c4, rfl, ho4, t4⟩
        simp only at ho4
        have z4 := t4.size
        have hx5 := (hx3.below t4 (by omega)).alloc (.cells #[.int .i64 k, .int .i64 t, .int .i64 f, .int .i64 h, .int .i64 p, .int .i64 o, .int .i64 s, .int .i64 a, .slice A4 n4 c4] 24)
        have t5 := t4.trans ((below_alloc w4 (.cells #[.int .i64 k, .int .i64 t, .int .i64 f, .int .i64 h, .int .i64 p, .int .i64 o, .int .i64 s, .int .i64 a, .slice A4 n4 c4] 24)).mono z4)
        have hr5 := hr3.below' t5 z3
        have ho5 := (ho4.alloc (.cells #[.int .i64 k, .int .i64 t, .int .i64 f, .int .i64 h, .int .i64 p, .int .i64 o, .int .i64 s, .int .i64 a, .slice A4 n4 c4] 24)).rd
        have hT5 := hT3.trans (t5.mono (by omega))
        have z5 := t5.size
        obtain ⟨d0, d1, d2, d3, d4, d5, d6, d7, d8⟩ := hx5.nine
        clear hx3 hr3 ho4 t4 t5 hT3
        go_wp2_with fail
        generalize (w4.alloc (.cells #[.int .i64 k, .int .i64 t, .int .i64 f, .int .i64 h, .int .i64 p, .int .i64 o, .int .i64 s, .int .i64 a, .slice A4 n4 c4] 24)) = w5 at *
        refine (sameS_any ho5 hr5 (Nat.le_refl _) (by omega) hl hl).mono ?_
        rw [sameS_self]
        rintro e w6 ⟨rfl, t6⟩
        have hx6 := hx5.below t6 hx5.lt
        have hr6 := hr5.below' t6 (by omega)
        have hT6 := hT5.trans (t6.mono hT5.size)
        have z6 := t6.size
        clear d0 d1 d2 d3 d4 d5 d6 d7 d8 hx5 hr5 ho5 hT5 t6
        obtain ⟨d0, d1, d2, d3, d4, d5, d6, d7, d8⟩ := hx6.nine
        go_wp2_with fail
        refine (checkS_any k t f h p o s a A n c w6).mono ?_
        rw [Hck.out]
        rintro e w7 ⟨rfl, t7⟩
        have hx7 := hx6.below t7 hx6.lt
        have hr7 := hr6.below' t7 (by omega)
        have hT7 := hT6.trans (t7.mono hT6.size)
        have z7 := t7.size
        clear d0 d1 d2 d3 d4 d5 d6 d7 d8 hx6 hr6 hT6 t7
        obtain ⟨d0, d1, d2, d3, d4, d5, d6, d7, d8⟩ := hx7.nine
        have hf := hx7.free
        go_wp2_with fail
        refine (made_any k t f h p o s a A n c wr.heap.size l w7 hr7 (by omega) hl).mono ?_
        rintro e w8 ⟨k', t', f', h', p', o', s', a', l', A', n', c', rfl, ho8, ok', hl', t8⟩
        have hx8 := hx7.below t8 hx7.lt
        have hT8 := hT7.trans (t8.mono hT7.size)
        have ho9 := own_keep ho8 (putS_grown w8 w.heap.size k' t' f' h' p' o' s' a' (.slice A' n' c')) hx7.lt
        have Hok' := Kp.mk ok'
        clear d0 d1 d2 d3 d4 d5 d6 d7 d8 hf ok' hx7 hr7 hT7 ho8 t8
        have hx9 := hx8.put (k' := k') (t' := t') (f' := f') (h' := h') (p' := p') (o' := o') (s' := s') (a' := a') (m' := .slice A' n' c')
        have hT9 := putS_below hT8 (Nat.le_refl _) k' t' f' h' p' o' s' a' (.slice A' n' c')
        have hf := hx8.free
        obtain ⟨d0, d1, d2, d3, d4, d5, d6, d7, d8⟩ := hx8.nine
        go_wp2_with fail
        go_roundw
        case rel => exact ⟨q + 1, k', t', f', h', p', o', s', a', A', n', c', l', by omega, by go_num, hx9, ho9.rd, hl', Kp.mk (.inr Hok'.out), hT9⟩
        case measure => simp [intOf]; omega
      · have hq0 : q = 0 := by
          rcases hko.out with h | h
          · exact h
          · exact absurd h ok
        subst hq0
        have Hok := Kp.mk (show bytesS k t f h p o s a l = ([], 2) from if_neg ok)
        have Hck := Kp.mk (show checkS k t f h p o s a n = 2 by rw [← hln]; exact if_neg ok)
        clear ok hko hln
        obtain ⟨d0, d1, d2, d3, d4, d5, d6, d7, d8⟩ := hx.nine
        go_wp2_with fail
        refine (bytesS_any hr (Nat.le_refl _) hl).mono ?_
        rw [Hok.out]
        rintro e w3 ⟨A3, n3, c3, rfl, ho3, t3⟩
        have hn3 : n3 = 0 := by have := ho3.len; simpa using this.symm
        subst hn3
        have hx3 := hx.below t3 hlr
        have hr3 := hr.below t3
        have hT3 := hT.trans (t3.mono hzr)
        have z3 := t3.size
        clear ho3 d0 d1 d2 d3 d4 d5 d6 d7 d8
        obtain ⟨d0, d1, d2, d3, d4, d5, d6, d7, d8⟩ := hx3.nine
        go_wp2_with fail
        refine (checkS_any k t f h p o s a A n c w3).mono ?_
        rw [Hck.out]
        rintro e w7 ⟨rfl, t7⟩
        have hx7 := hx3.below t7 hx3.lt
        have hr7 := hr3.below' t7 (by omega)
        have hT7 := hT3.trans (t7.mono hT3.size)
        have z7 := t7.size
        clear d0 d1 d2 d3 d4 d5 d6 d7 d8 hx3 hr3 hT3 t7 t3
        obtain ⟨d0, d1, d2, d3, d4, d5, d6, d7, d8⟩ := hx7.nine
        have hf := hx7.free
        go_wp2_with fail
        refine (made_any k t f h p o s a A n c wr.heap.size l w7 hr7 (by omega) hl).mono ?_
        rintro e w8 ⟨k', t', f', h', p', o', s', a', l', A', n', c', rfl, ho8, ok', hl', t8⟩
        have hx8 := hx7.below t8 hx7.lt
        have hT8 := hT7.trans (t8.mono hT7.size)
        have ho9 := own_keep ho8 (putS_grown w8 w.heap.size k' t' f' h' p' o' s' a' (.slice A' n' c')) hx7.lt
        have Hok' := Kp.mk ok'
        clear d0 d1 d2 d3 d4 d5 d6 d7 d8 hf ok' hx7 hr7 hT7 ho8 t8
        have hx9 := hx8.put (k' := k') (t' := t') (f' := f') (h' := h') (p' := p') (o' := o') (s' := s') (a' := a') (m' := .slice A' n' c')
        have hT9 := putS_below hT8 (Nat.le_refl _) k' t' f' h' p' o' s' a' (.slice A' n' c')
        have hf := hx8.free
        obtain ⟨d0, d1, d2, d3, d4, d5, d6, d7, d8⟩ := hx8.nine
        go_wp2_with fail
        go_roundw
        case rel => exact ⟨1, k', t', f', h', p', o', s', a', A', n', c', l', by omega, by go_num, hx9, ho9.rd, hl', Kp.mk (.inr Hok'.out), hT9⟩
        case measure => simp [intOf]
    · obtain rfl : q = 2 := by omega
      go_wp2_with fail
      go_ret
      exact ⟨rfl, hT⟩

theorem SegBack_walk (k t f h p o s a : Int) (A : Option Addr) (n c : Nat) (z : List Int) (w : World) (w0 : Frame.IsRow .u8 w A n c z) (re : c * 1 ≤ 140737488351232) :
    Calls Try.prog 6 #[.agg #[.int .i64 k, .int .i64 t, .int .i64 f, .int .i64 h, .int .i64 p, .int .i64 o, .int .i64 s, .int .i64 a, .slice A n c]] w fun e w' => e = .returned (.bool true) ∧ Below w.heap.size w w' :=
  segBack_any k t f h p o s a A n c _ w (Rd.of_row w0) (By.of_row w0)
end Go.Proofs.Ytbniefgfiafaoaa.Oct
