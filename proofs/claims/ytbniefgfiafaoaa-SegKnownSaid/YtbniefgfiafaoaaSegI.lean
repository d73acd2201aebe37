/- The walk of SegParses. -/
import Derived.Test.YtbniefgfiafaoaaSegF
import Derived.Test.YtbniefgfiafaoaaSegS
import Derived.Test.YtbniefgfiafaoaaSegD
import Derived.StillTailTactics
import Derived.Deep.Cut
namespace Go.Proofs.Ytbniefgfiafaoaa.Oct
open Go.RowKit
set_option linter.unusedVariables false
set_option linter.unusedSimpArgs false

theorem Own.at_lt {w : World} {base : Nat} {A : Option Addr} {n c : Nat} {l : List Int} (h : Own w base (.slice A n c) n l) : ∀ g o r, A = some ⟨g, o, r⟩ → base ≤ g ∧ g < w.heap.size := by
  intro g o r e
  obtain ⟨A', c', e1, _, _, _, h3⟩ := h.form
  simp only [Value.slice.injEq] at e1
  obtain ⟨e2, _, _⟩ := e1
  obtain ⟨g', e3, h4, h5⟩ := h3 ⟨g, o, r⟩ (by rw [← e2, e])
  simp only [Addr.mk.injEq] at e3
  obtain ⟨rfl, _⟩ := e3
  exact ⟨h4, h5⟩

set_option maxRecDepth 100000 in
set_option maxHeartbeats 8000000 in
theorem segParses_any {w : World} {A : Option Addr} {n c : Nat} {l : List Int} (h : Rd .u8 w w.heap.size A n c l) (hl : By l) (hc : n ≤ 140737488351232) :
    Calls Try.prog 4 #[.slice A n c] w fun e w' => e = .returned (.bool true) ∧ Below w.heap.size w w' := by
  have H1 := Kp.mk (fun (w1 : World) (A1 : Option Addr) (n1 c1 : Nat) (B : Nat) (h : Rd .u8 w1 B A1 n1 c1 l) (hB : B ≤ w1.heap.size) => parseS_any h hl hB)
  have H2 := Kp.mk (fun (w1 : World) (A1 : Option Addr) (n1 c1 : Nat) (B : Nat) (h : Rd .u8 w1 B A1 n1 c1 l) (hB : B ≤ w1.heap.size) => refParseS_any h hl hB)
  have Hby := Kp.mk (parseS_by l hl)
  generalize parseS l = X at *
  obtain ⟨⟨q1, q2, q3, q4, q5, q6, q7, q8, q9⟩, e0⟩ := X
  simp only at H1 H2 Hby
  have hself := Kp.mk (sameS_self q1 q2 q3 q4 q5 q6 q7 q8 q9)
  go_enter Try.func4, Try.ntmps4
  go_wp2_with fail
  refine (copyBytes_any h (by omega)).mono ?_
  rintro e w1 ⟨A1, n1, c1, rfl, ho1, t1⟩
  have z1 := t1.size
  have r1 := ho1.rd
  have rb1 := (h.below t1).more z1
  clear ho1 hc
  go_wp2_with fail
  refine (H1.out _ _ _ _ _ r1 (Nat.le_refl _)).mono ?_
  rintro e w2 ⟨A2, n2, c2, rfl, ho2, t2⟩
  simp only at ho2
  have z2 := t2.size
  go_wp2_with fail
  have hx3 : Sg (w2.alloc (.cells #[.int .i64 q1, .int .i64 q2, .int .i64 q3, .int .i64 q4, .int .i64 q5, .int .i64 q6, .int .i64 q7, .int .i64 q8, .slice A2 n2 c2] 24)) w2.heap.size [q1, q2, q3, q4, q5, q6, q7, q8] (.slice A2 n2 c2) := Sg.new w2 [q1, q2, q3, q4, q5, q6, q7, q8] (.slice A2 n2 c2)
  have t3 := t2.trans ((below_alloc w2 (.cells #[.int .i64 q1, .int .i64 q2, .int .i64 q3, .int .i64 q4, .int .i64 q5, .int .i64 q6, .int .i64 q7, .int .i64 q8, .slice A2 n2 c2] 24)).mono z2)
  have ho3 := ho2.alloc (.cells #[.int .i64 q1, .int .i64 q2, .int .i64 q3, .int .i64 q4, .int .i64 q5, .int .i64 q6, .int .i64 q7, .int .i64 q8, .slice A2 n2 c2] 24)
  have hAt := Kp.mk ho2.at_lt
  have z3 : (w2.alloc (.cells #[.int .i64 q1, .int .i64 q2, .int .i64 q3, .int .i64 q4, .int .i64 q5, .int .i64 q6, .int .i64 q7, .int .i64 q8, .slice A2 n2 c2] 24)).heap.size = w2.heap.size + 1 := by simp
  generalize (w2.alloc (.cells #[.int .i64 q1, .int .i64 q2, .int .i64 q3, .int .i64 q4, .int .i64 q5, .int .i64 q6, .int .i64 q7, .int .i64 q8, .slice A2 n2 c2] 24)) = w3 at *
  refine (H2.out _ _ _ _ _ (rb1.below t3) (by omega)).mono ?_
  rintro e w4 ⟨A4, n4, c4, rfl, ho4, t4⟩
  simp only at ho4
  have z4 := t4.size
  have hx5 := (hx3.below t4 (by omega)).alloc (.cells #[.int .i64 q1, .int .i64 q2, .int .i64 q3, .int .i64 q4, .int .i64 q5, .int .i64 q6, .int .i64 q7, .int .i64 q8, .slice A4 n4 c4] 24)
  have t5 := (t3.trans (t4.mono (by omega))).trans ((below_alloc w4 (.cells #[.int .i64 q1, .int .i64 q2, .int .i64 q3, .int .i64 q4, .int .i64 q5, .int .i64 q6, .int .i64 q7, .int .i64 q8, .slice A4 n4 c4] 24)).mono (by omega))
  have ho5 := (ho3.below t4 (Nat.le_refl _)).alloc (.cells #[.int .i64 q1, .int .i64 q2, .int .i64 q3, .int .i64 q4, .int .i64 q5, .int .i64 q6, .int .i64 q7, .int .i64 q8, .slice A4 n4 c4] 24)
  have hp5 := ho4.alloc (.cells #[.int .i64 q1, .int .i64 q2, .int .i64 q3, .int .i64 q4, .int .i64 q5, .int .i64 q6, .int .i64 q7, .int .i64 q8, .slice A4 n4 c4] 24)
  obtain ⟨d0, d1, d2, d3, d4, d5, d6, d7, d8⟩ := hx5.nine
  clear hx3 ho2 ho3 ho4 t3 t4 t2
  go_wp2_with fail
  have z5 : (w4.alloc (.cells #[.int .i64 q1, .int .i64 q2, .int .i64 q3, .int .i64 q4, .int .i64 q5, .int .i64 q6, .int .i64 q7, .int .i64 q8, .slice A4 n4 c4] 24)).heap.size = w4.heap.size + 1 := by simp
  generalize (w4.alloc (.cells #[.int .i64 q1, .int .i64 q2, .int .i64 q3, .int .i64 q4, .int .i64 q5, .int .i64 q6, .int .i64 q7, .int .i64 q8, .slice A4 n4 c4] 24)) = w5 at *
  refine (refSame_any ho5.rd hp5.rd (Nat.le_refl _) (Nat.le_refl _) Hby.out Hby.out).mono ?_
  rw [hself.out]
  rintro e w6 ⟨rfl, t6⟩
  have hx6 := hx5.below t6 (by omega)
  have ho6 := ho5.below t6 (Nat.le_refl _)
  have T6 := t5.trans (t6.mono (by omega))
  have z6 := t6.size
  have R := Kp.mk (And.intro r1 rb1)
  clear d0 d1 d2 d3 d4 d5 d6 d7 d8 hx5 ho5 hp5 t5 t6 r1 rb1 h
  obtain ⟨d0, d1, d2, d3, d4, d5, d6, d7, d8⟩ := hx6.nine
  go_wp2_with fail
  refine (eqBytes_any (R.out.1.below T6) (R.out.2.below T6) hl hl).mono ?_
  rw [show decide (l = l) = true from by simp]
  rintro e w' ⟨rfl, rfl⟩
  go_wp2_with fail
  clear d0 d1 d2 d3 d4 d5 d6 d7 d8
  go_loopw [8] (fun i wr => ∃ (j : Nat) (lx : List Int), j ≤ n2 ∧ i = .int .i64 j ∧ Sg wr w2.heap.size [q1, q2, q3, q4, q5, q6, q7, q8] (.slice A2 n2 c2) ∧ Own wr w1.heap.size (.slice A2 n2 c2) n2 lx ∧ By lx ∧ Below w1.heap.size w1 wr) (fun i _ => n2 - (intOf i).toNat)
  case atStart => exact ⟨0, q9, by omega, rfl, hx6, ho6, Hby.out, T6⟩
  case round =>
    clear hx6 ho6 T6
    obtain ⟨j, lx, hj, rfl, hx, ho, hb, hT⟩ := hrel
    obtain ⟨d0, d1, d2, d3, d4, d5, d6, d7, d8⟩ := hx.nine
    have hmax : (n2 : Int) ≤ 9223372036854775807 := ho.rd.max
    by_cases hlt : j < n2
    · have j1 : (j : Int) < n2 := by omega
      obtain ⟨g, hA, hbg, hgw, hcell, hfr⟩ := own_cell ho j hlt
      have hgx := (hAt.out g 0 none hA).2
      subst hA
      have hyb := hb.getD j
      have hset := own_set ho j hlt (bits .xor .u8 (lx.getD j 0) 90)
      have hby3 := hb.set j (xor_by _ 90 hyb (by omega))
      have hg := grownBy_set wr g j (.int .u8 (bits .xor .u8 (lx.getD j 0) 90))
      have hx' := hx.grown hg (by omega)
      have hT' := hT.setCell (p := ⟨g, j, none⟩) (by simp; omega) (.int .u8 (bits .xor .u8 (lx.getD j 0) 90))
      generalize lx.getD j 0 = y at *
      have HH := Kp.mk (And.intro hx' (And.intro hset (And.intro hby3 hT')))
      obtain ⟨hy1, hy2⟩ := hyb
      clear hx' hset hby3 hT' hg
      go_upto_region 9 with fail
      have e8 : wr.drew.cell? ⟨w2.heap.size, 8, none⟩ = some (.slice (some ⟨g, 0, none⟩) n2 c2) := d8
      have ec : wr.drew.cell? ⟨g, j, none⟩ = some (.int .u8 y) := hcell
      go_still_tail 10, (by kernel_rfl)
      clear e8 ec
      have ef : wr.drew.frozen? ⟨g, j, none⟩ = false := hfr
      have ec : wr.drew.cell? ⟨g, j, none⟩ = some (.int .u8 y) := hcell
      replace HH : Kp (Sg (wr.drew.setCell ⟨g, j, none⟩ (.int .u8 (bits .xor .u8 y 90))) w2.heap.size [q1, q2, q3, q4, q5, q6, q7, q8] (.slice (some ⟨g, 0, none⟩) n2 c2) ∧ Own (wr.drew.setCell ⟨g, j, none⟩ (.int .u8 (bits .xor .u8 y 90))) w1.heap.size (.slice (some ⟨g, 0, none⟩) n2 c2) n2 (lx.set j (bits .xor .u8 y 90)) ∧ By (lx.set j (bits .xor .u8 y 90)) ∧ Below w1.heap.size w1 (wr.drew.setCell ⟨g, j, none⟩ (.int .u8 (bits .xor .u8 y 90)))) := Kp.mk ⟨HH.out.1, HH.out.2.1, HH.out.2.2.1, by
        have := (hT.drew).setCell (p := ⟨g, j, none⟩) (by simp; omega) (.int .u8 (bits .xor .u8 y 90))
        exact this⟩
      clear d0 d1 d2 d3 d4 d5 d6 d7 d8 hcell hfr hx ho hT hAt
      change wpList _ _ _ _ _ wr.drew
      generalize wr.drew = wc at *
      go_wp2_with fail
      go_roundw
      case rel => exact ⟨j + 1, _, by omega, by go_num, HH.out.1, HH.out.2.1, HH.out.2.2.1, HH.out.2.2.2⟩
      case measure => simp [intOf]; omega
    · obtain rfl : j = n2 := by omega
      go_wp2_with fail
      refine (eqBytes_any (R.out.1.below hT) (R.out.2.below hT) hl hl).mono ?_
      rw [show decide (l = l) = true from by simp]
      rintro e w' ⟨rfl, rfl⟩
      go_wp2_with fail
      refine (worksS_any _).mono ?_
      rintro e w9 ⟨rfl, hb9⟩
      go_wp2_with fail
      go_ret
      exact ⟨rfl, t1.trans ((hT.trans (hb9.mono hT.size)).mono z1)⟩

theorem SegParses_walk (A0 : Option Addr) (n0 c0 : Nat) (z0 : List Int) (w : World) (w0 : Frame.IsRow .u8 w A0 n0 c0 z0) (re0 : c0 * 1 ≤ 140737488351232) :
    Calls Try.prog 4 #[.slice A0 n0 c0] w fun e w' => e = .returned (.bool true) ∧ Below w.heap.size w w' :=
  segParses_any (Rd.of_row w0) (By.of_row w0) (by have := (Rd.of_row w0).le; omega)
end Go.Proofs.Ytbniefgfiafaoaa.Oct
