/- The walk of SegTurned. -/
import Derived.Test.YtbniefgfiafaoaaSegF
import Derived.Test.YtbniefgfiafaoaaSegS
import Derived.Test.YtbniefgfiafaoaaSegD
import Derived.Test.YtbniefgfiafaoaaSegM
namespace Go.Proofs.Ytbniefgfiafaoaa.Oct
open Go.RowKit
set_option linter.unusedVariables false
set_option linter.unusedSimpArgs false

set_option maxRecDepth 100000 in
set_option maxHeartbeats 2000000 in
theorem segTurned_any (k t f h p o s a : Int) (A : Option Addr) (n c : Nat) (l : List Int) (at' x : Int) (w : World) (hr : Rd .u8 w w.heap.size A n c l) (hl : By l) (hx : 0 ≤ x ∧ x < 256) :
    Calls Try.prog 8 #[.agg #[.int .i64 k, .int .i64 t, .int .i64 f, .int .i64 h, .int .i64 p, .int .i64 o, .int .i64 s, .int .i64 a, .slice A n c], .int .i64 at', .int .u8 x] w fun e w' => e = .returned (.bool true) ∧ Below w.heap.size w w' := by
  go_enter Try.func8, Try.ntmps8
  go_wp2_with fail
  have t0 := below_alloc w (.cells #[.int .i64 k, .int .i64 t, .int .i64 f, .int .i64 h, .int .i64 p, .int .i64 o, .int .i64 s, .int .i64 a, .slice A n c] 24)
  have hx0 : Sg (w.alloc (.cells #[.int .i64 k, .int .i64 t, .int .i64 f, .int .i64 h, .int .i64 p, .int .i64 o, .int .i64 s, .int .i64 a, .slice A n c] 24)) w.heap.size [k, t, f, h, p, o, s, a] (.slice A n c) := Sg.new w [k, t, f, h, p, o, s, a] (.slice A n c)
  have r0 := (hr.below t0).more (Nat.le_succ w.heap.size)
  have hz0 : (w.alloc (.cells #[.int .i64 k, .int .i64 t, .int .i64 f, .int .i64 h, .int .i64 p, .int .i64 o, .int .i64 s, .int .i64 a, .slice A n c] 24)).heap.size = w.heap.size + 1 := by simp
  generalize (w.alloc (.cells #[.int .i64 k, .int .i64 t, .int .i64 f, .int .i64 h, .int .i64 p, .int .i64 o, .int .i64 s, .int .i64 a, .slice A n c] 24)) = w0 at *
  refine (made_any k t f h p o s a A n c _ l w0 r0 (by omega) hl).mono ?_
  clear r0 hr hl
  rintro e w1 ⟨k', t', f', h', p', o', s', a', l', A', n', c', rfl, ho1, ok, hl, t1⟩
  have hx1 := hx0.below t1 hx0.lt
  have T1 := t0.trans (t1.mono (by omega))
  have ho2 := own_keep ho1 (putS_grown w1 w.heap.size k' t' f' h' p' o' s' a' (.slice A' n' c')) hx0.lt
  have hx2 := hx1.put (k' := k') (t' := t') (f' := f') (h' := h') (p' := p') (o' := o') (s' := s') (a' := a') (m' := .slice A' n' c')
  have T2 := putS_below T1 (Nat.le_refl _) k' t' f' h' p' o' s' a' (.slice A' n' c')
  have z1 := T1.size
  have hf := hx1.free
  obtain ⟨d0, d1, d2, d3, d4, d5, d6, d7, d8⟩ := hx1.nine
  have Hok := Kp.mk ok
  clear t0 t1 T1 ho1 hx1 hx0 ok
  go_upto_region 2 with fail
  clear d0 d1 d2 d3 d4 d5 d6 d7 d8 hf
  change Code.wp _ _ _ _ (putS w1 w.heap.size k' t' f' h' p' o' s' a' (.slice A' n' c'))
  generalize (putS w1 w.heap.size k' t' f' h' p' o' s' a' (.slice A' n' c')) = w2 at *
  have z2 := T2.size
  have r2 := ho2.rd
  obtain ⟨d0, d1, d2, d3, d4, d5, d6, d7, d8⟩ := hx2.nine
  go_wp2_with fail
  refine (bytesS_any r2 (Nat.le_refl _) hl).mono ?_
  rw [show bytesS k' t' f' h' p' o' s' a' l' = (frm 3 (sB k' t' f' h' p' o' s' a' l'), 0) from if_pos Hok.out]
  rintro e w3 ⟨A3, n3, c3, rfl, ho3, t3⟩
  have hl3 := ho3.len
  have hbd := okS_bd Hok.out
  have hn3 : Kp (n3 = l'.length + 21) := Kp.mk (by rw [← hl3, frm_len, sB_len])
  have hlt3 : (n3 : Int) ≤ 300 ∧ 0 < n3 := by have := hn3.out; omega
  obtain ⟨hlt4, hlt5⟩ := hlt3
  have hk0 := Kp.mk (show (0 : Int) = k' → False by omega)
  have hw2 := hx2.lt
  have hx3 := hx2.below t3 hw2
  have r3 := r2.below t3
  have T3 := T2.trans (t3.mono z2)
  have z3 := T3.size
  have hfby := frm_by 3 (sB k' t' f' h' p' o' s' a' l') (by omega) (sB_by k' t' f' h' p' o' s' a' hl)
  have hturn := Kp.mk (fun j hj => parseS_turned Hok.out hl j hj x hx)
  have hbr := Ser.bringP_bd at' n3 (by omega)
  have hw23 := t3.size
  clear ho2 hx2 T2 t3 d0 d1 d2 d3 d4 d5 d6 d7 d8 r2 hbd
  go_wp2_with fail
  refine (Ser.bring_any at' n3 _ (by omega) (by omega)).mono ?_
  rintro e w' ⟨rfl, rfl⟩
  obtain ⟨j, hj⟩ : ∃ j : Nat, Ser.bringP at' n3 = j := ⟨(Ser.bringP at' n3).toNat, by omega⟩
  rw [hj] at hbr
  generalize Ser.bringP at' n3 = q at *
  subst hj
  have hj12 : j < n3 := by omega
  have hjI : (j : Int) < n3 := by omega
  have hT := hturn.out j (by have := hn3.out; omega)
  generalize frm 3 (sB k' t' f' h' p' o' s' a' l') = ff at *
  obtain ⟨g, rfl, hbg, hgw, hcell, hfr⟩ := own_cell ho3 j hj12
  have hxb := hfby.getD j
  have hset := own_set ho3 j hj12 (bits .xor .u8 (ff.getD j 0) x)
  have hby3 := hfby.set j (xor_by _ x hxb hx)
  have hg := grownBy_set w3 g j (.int .u8 (bits .xor .u8 (ff.getD j 0) x))
  have T4 := T3.setCell (p := ⟨g, j, none⟩) (by simp; omega) (.int .u8 (bits .xor .u8 (ff.getD j 0) x))
  have hx4 := hx3.grown hg (by omega)
  have r4 : Rd .u8 (w3.setCell ⟨g, j, none⟩ (.int .u8 (bits .xor .u8 (ff.getD j 0) x))) w2.heap.size A' n' c' l' := r3.below ((Below.refl w2.heap.size w3).setCell (p := ⟨g, j, none⟩) (by simp; omega) (.int .u8 (bits .xor .u8 (ff.getD j 0) x)))
  generalize ff.getD j 0 = y at *
  obtain ⟨hx1, hx2⟩ := hxb
  have HH := Kp.mk (And.intro hset (And.intro T4 (And.intro hx4 (And.intro r4 (And.intro hby3 hT)))))
  obtain ⟨hx5, hx6⟩ := hx
  have hbx : 0 ≤ x := hx5
  have hz3' : Kp (w2.heap.size ≤ w3.heap.size ∧ w.heap.size < w3.heap.size) := Kp.mk ⟨hw23, hx3.lt⟩
  clear hset T4 hx4 r4 hby3 hT T3 ho3 hturn hbr hl3 hx3 r3 hg hn3 hz0
  go_upto_region 7 with fail
  obtain ⟨hset, T4, hx4, r4, hby3, hT⟩ := HH.out
  have hz4 : (w3.setCell ⟨g, j, none⟩ (.int .u8 (bits .xor .u8 y x))).heap.size = w3.heap.size := by simp [World.setCell]
  clear HH hcell hfr
  generalize (w3.setCell ⟨g, j, none⟩ (.int .u8 (bits .xor .u8 y x))) = w4 at *
  have z4 := T4.size
  go_wp2_with fail
  refine (parseS_any hset.rd hby3 (Nat.le_refl _)).mono ?_
  rw [hT]
  by_cases hx0 : x = 0
  · subst hx0
    rw [if_pos rfl]
    rintro e w5 ⟨A5, n5, c5, rfl, ho5, t5⟩
    simp only at ho5
    have hx6 := (hx4.below t5 hx4.lt).alloc (.cells #[.int .i64 k', .int .i64 t', .int .i64 f', .int .i64 h', .int .i64 p', .int .i64 o', .int .i64 s', .int .i64 a', .slice A5 n5 c5] 24)
    have t6 := t5.trans ((below_alloc w5 (.cells #[.int .i64 k', .int .i64 t', .int .i64 f', .int .i64 h', .int .i64 p', .int .i64 o', .int .i64 s', .int .i64 a', .slice A5 n5 c5] 24)).mono t5.size)
    have r6 := r4.below' t6 (by rw [hz4]; exact hz3'.out.1)
    have ho6 := (ho5.alloc (.cells #[.int .i64 k', .int .i64 t', .int .i64 f', .int .i64 h', .int .i64 p', .int .i64 o', .int .i64 s', .int .i64 a', .slice A5 n5 c5] 24)).rd
    have T6 := T4.trans (t6.mono z4)
    have hz6 : w2.heap.size ≤ (w5.alloc (.cells #[.int .i64 k', .int .i64 t', .int .i64 f', .int .i64 h', .int .i64 p', .int .i64 o', .int .i64 s', .int .i64 a', .slice A5 n5 c5] 24)).heap.size := by have := t6.size; have := hz3'.out.1; omega
    obtain ⟨d0, d1, d2, d3, d4, d5, d6, d7, d8⟩ := hx6.nine
    clear hx4 r4 ho5 t5 t6 T4 hset hT
    go_wp2_with fail
    generalize (w5.alloc (.cells #[.int .i64 k', .int .i64 t', .int .i64 f', .int .i64 h', .int .i64 p', .int .i64 o', .int .i64 s', .int .i64 a', .slice A5 n5 c5] 24)) = w6 at *
    refine (sameS_any ho6 r6 (Nat.le_refl _) hz6 hl hl).mono ?_
    rw [sameS_self]
    rintro e w7 ⟨rfl, t7⟩
    have T7 := T6.trans (t7.mono T6.size)
    clear d0 d1 d2 d3 d4 d5 d6 d7 d8
    go_wp2_with fail
    refine (worksS_any w7).mono ?_
    rintro e w9 ⟨rfl, t9⟩
    go_wp2_with fail
    go_ret
    exact ⟨rfl, T7.trans (t9.mono T7.size)⟩
  · rw [if_neg hx0]
    rintro e w5 ⟨A5, n5, c5, rfl, ho5, t5⟩
    simp only [noSeg] at ho5
    unfold noSeg
    have k2 : (x == 0) = false := by simpa using hx0
    have hx6 := (hx4.below t5 hx4.lt).alloc (.cells #[.int .i64 0, .int .i64 0, .int .i64 0, .int .i64 0, .int .i64 0, .int .i64 0, .int .i64 0, .int .i64 0, .slice A5 n5 c5] 24)
    have t6 := t5.trans ((below_alloc w5 (.cells #[.int .i64 0, .int .i64 0, .int .i64 0, .int .i64 0, .int .i64 0, .int .i64 0, .int .i64 0, .int .i64 0, .slice A5 n5 c5] 24)).mono t5.size)
    have r6 := r4.below' t6 (by rw [hz4]; exact hz3'.out.1)
    have ho6 := (ho5.alloc (.cells #[.int .i64 0, .int .i64 0, .int .i64 0, .int .i64 0, .int .i64 0, .int .i64 0, .int .i64 0, .int .i64 0, .slice A5 n5 c5] 24)).rd
    have T6 := T4.trans (t6.mono z4)
    have hz6 : w2.heap.size ≤ (w5.alloc (.cells #[.int .i64 0, .int .i64 0, .int .i64 0, .int .i64 0, .int .i64 0, .int .i64 0, .int .i64 0, .int .i64 0, .slice A5 n5 c5] 24)).heap.size := by have := t6.size; have := hz3'.out.1; omega
    have hno : Kp (sameS 0 0 0 0 0 0 0 0 [] k' t' f' h' p' o' s' a' l' = false) := Kp.mk (by
      cases hs : sameS 0 0 0 0 0 0 0 0 [] k' t' f' h' p' o' s' a' l' with
      | false => rfl
      | true => exact (hk0.out (sameS_iff.1 hs).1).elim)
    obtain ⟨d0, d1, d2, d3, d4, d5, d6, d7, d8⟩ := hx6.nine
    clear hx4 r4 ho5 t5 t6 T4 hset hT hx0
    go_wp2_with fail
    generalize (w5.alloc (.cells #[.int .i64 0, .int .i64 0, .int .i64 0, .int .i64 0, .int .i64 0, .int .i64 0, .int .i64 0, .int .i64 0, .slice A5 n5 c5] 24)) = w6 at *
    refine (sameS_any ho6 r6 (Nat.le_refl _) hz6 By.nil hl).mono ?_
    rw [hno.out]
    rintro e w7 ⟨rfl, t7⟩
    have T7 := T6.trans (t7.mono T6.size)
    clear d0 d1 d2 d3 d4 d5 d6 d7 d8
    go_wp2_with fail
    refine (worksS_any w7).mono ?_
    rintro e w9 ⟨rfl, t9⟩
    go_wp2_with fail
    go_ret
    exact ⟨rfl, T7.trans (t9.mono T7.size)⟩

theorem SegTurned_walk (k t f h p o s a : Int) (A : Option Addr) (n c : Nat) (z : List Int) (a1 : Int) (a2 : Int) (w : World) (w0 : Frame.IsRow .u8 w A n c z) (re : c * 1 ≤ 140737488351232) (w1 : (Lit.int .i64 a1).wf = true) (w2 : (Lit.int .u8 a2).wf = true) :
    Calls Try.prog 8 #[.agg #[.int .i64 k, .int .i64 t, .int .i64 f, .int .i64 h, .int .i64 p, .int .i64 o, .int .i64 s, .int .i64 a, .slice A n c], .int .i64 a1, .int .u8 a2] w fun e w' => e = .returned (.bool true) ∧ Below w.heap.size w w' :=
  segTurned_any k t f h p o s a A n c _ a1 a2 w (Rd.of_row w0) (By.of_row w0) (by have := Go.bounds_u8 w2; omega)
end Go.Proofs.Ytbniefgfiafaoaa.Oct
