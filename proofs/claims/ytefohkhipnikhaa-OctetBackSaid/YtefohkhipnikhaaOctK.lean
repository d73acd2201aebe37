/- The walk of OctetOpens. -/
import Derived.Test.YtefohkhipnikhaaOctJ
namespace Go.Proofs.Ytefohkhipnikhaa.Oct
open Go.RowKit
set_option linter.unusedVariables false

theorem openP_by (l : List Int) (h : By l) : By (openP l).2.1 := by
  unfold openP
  split
  · exact By.nil
  · split
    · exact By.nil
    · split
      · exact (h.drop _).take _
      · exact By.nil

set_option maxRecDepth 100000 in
set_option maxHeartbeats 4000000 in
theorem opens_any {w : World} {A : Option Addr} {n c : Nat} {l : List Int} (h : Rd .u8 w w.heap.size A n c l) (hl : By l) (hc : c ≤ 140737488351232) :
    Calls Try.prog 4 #[.slice A n c] w fun e w' => e = .returned (.bool true) ∧ Below w.heap.size w w' := by
  have hle := h.le
  go_enter Try.func4, Try.ntmps4
  go_wp2_with fail
  refine (copyBytes_any h (by omega)).mono ?_
  rintro e w1 ⟨A1, n1, c1, rfl, ho1, t1⟩
  have hn1 : n1 = n := by have := ho1.len; have := h.len; omega
  subst hn1
  have z1 := t1.size
  have r1 := ho1.rd
  have rb1 := h.below t1
  clear ho1 hc hle
  go_wp2_with fail
  refine (open_any r1 hl (Nat.le_refl _)).mono ?_
  rintro e w2 ⟨A2, n2, c2, rfl, ho2, t2⟩
  have z2 := t2.size
  have Ho2 := Kp.mk ho2
  have hA2 : ∀ g, A2 = some ⟨g, 0, none⟩ → g < w2.heap.size := by
    intro g hg
    obtain ⟨A', c', e, _, _, _, h4⟩ := ho2.form
    simp only [Value.slice.injEq] at e
    rw [← e.1] at h4
    obtain ⟨g', e', _, hlt⟩ := h4 _ hg
    simp at e'
    omega
  have HA2 := Kp.mk hA2
  clear ho2 hA2
  have rb2 := rb1.below' t2 z1
  go_wp2_with fail
  refine (refOpen_any rb2 hl (by omega)).mono ?_
  rintro e w3 ⟨A3, n3, c3, rfl, ho3, t3⟩
  have z3 := t3.size
  have t13 := bstep t2 t3 z2
  have hby := openP_by l hl
  have hx3 : Own w3 w1.heap.size (.slice A2 n2 c2) n2 (openP l).2.1 := Ho2.out.below t3 (Nat.le_refl _)
  have Hy : Kp (Own w3 w2.heap.size (.slice A3 n3 c3) n3 (openP l).2.1) := Kp.mk ho3
  clear ho3 Ho2 rb2
  have hby2 := Kp.mk hby
  have hq := Kp.mk (Eq.refl (openP l).2.1)
  obtain ⟨lx, hlx⟩ : ∃ lx, lx = (openP l).2.1 := ⟨_, rfl⟩
  rw [← hlx] at hx3 hby
  clear hlx
  have hmx := hx3.rd.max
  have T1 := Kp.mk t1
  go_wp2_with fail
  go_loopw [10] (fun i wr => ∃ (k : Nat) (l' : List Int), k ≤ n2 ∧ i = .int .i64 k ∧ Own wr w1.heap.size (.slice A2 n2 c2) n2 l' ∧ By l' ∧ Below w1.heap.size w1 wr ∧ Kp (Own wr w2.heap.size (.slice A3 n3 c3) n3 (openP l).2.1)) (fun i _ => n2 - (intOf i).toNat)
  case atStart => exact ⟨0, lx, by omega, rfl, hx3, hby, t13, Hy⟩
  case round =>
    obtain ⟨k, l', hk, rfl, ho, hbl, hb, hgy⟩ := hrel
    have hzr := hb.size
    by_cases hlt : k < n2
    · obtain ⟨g, rfl, hbg, hgw, hcell, hfr⟩ := own_cell ho k hlt
      have hxb := hbl.getD k
      have hset := own_set ho k hlt (bits .xor .u8 (l'.getD k 0) 90)
      have hby3 := hbl.set k (xor_by _ 90 hxb (by omega))
      have hI : (k : Int) < n2 := by omega
      have hb2 := hb.setCell (p := ⟨g, k, none⟩) (by simpa using hbg) (.int .u8 (bits .xor .u8 (l'.getD k 0) 90))
      have hy2 : Kp (Own (wr.setCell ⟨g, k, none⟩ (.int .u8 (bits .xor .u8 (l'.getD k 0) 90))) w2.heap.size (.slice A3 n3 c3) n3 (openP l).2.1) := Kp.mk (ownsRow_setCell_below hgy.out (HA2.out g rfl) _)
      generalize l'.getD k 0 = x at *
      obtain ⟨hx1, hx2⟩ := hxb
      have Hset := Kp.mk hset
      have Hb2 := Kp.mk hb2
      clear hset hb2 ho hx3
      go_wp2_with fail
      go_roundw
      case rel => exact ⟨k + 1, l'.set k (bits .xor .u8 x 90), by omega, by go_num, Hset.out, hby3, Hb2.out, hy2⟩
      case measure => simp [intOf]; omega
    · obtain rfl : k = n2 := by omega
      have q1 := r1.below hb
      have q2 := rb1.below' hb (by omega)
      have hby4 := openP_by l hl
      have hTb := Kp.mk ((T1.out.trans (hb.mono (by omega))))
      have hz9 := hTb.out.size
      go_wp2_with fail
      refine (open_any q1 hl (by omega)).mono ?_
      rintro e w4 ⟨A4, n4, c4, rfl, ho4, t4⟩
      have z4 := t4.size
      have gz := ho4.rd
      have gy := (hgy.out.below t4 (Nat.le_refl _)).rd
      have gi := q1.below' t4 (by omega)
      have gb := q2.below' t4 (by omega)
      go_wp2_with fail
      refine (eqBytes_any gz gy hby4 hby4).mono ?_
      rw [show decide ((openP l).2.1 = (openP l).2.1) = true from by simp]
      rintro e w' ⟨rfl, rfl⟩
      go_wp2_with fail
      refine (eqBytes_any gi gb hl hl).mono ?_
      rw [show decide (l = l) = true from by simp]
      rintro e w' ⟨rfl, rfl⟩
      go_wp2_with fail
      refine (works_any _).mono ?_
      rintro e w9 ⟨rfl, hb9⟩
      go_wp2_with fail
      go_ret
      exact ⟨rfl, (hTb.out.trans (t4.mono (by omega))).trans (hb9.mono (by omega))⟩

theorem OctetOpens_walk (A0 : Option Addr) (n0 c0 : Nat) (z0 : List Int) (w : World) (w0 : Frame.IsRow .u8 w A0 n0 c0 z0) (re0 : c0 * 1 ≤ 140737488351232) :
    Calls Try.prog 4 #[.slice A0 n0 c0] w fun e w' => e = .returned (.bool true) ∧ Below w.heap.size w w' :=
  opens_any (Rd.of_row w0) (By.of_row w0) (by omega)
end Go.Proofs.Ytefohkhipnikhaa.Oct
