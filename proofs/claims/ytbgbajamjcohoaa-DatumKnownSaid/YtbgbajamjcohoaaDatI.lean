/- The walk of DatumParses. -/
import Derived.Test.YtbgbajamjcohoaaDatG
import Derived.Test.YtbgbajamjcohoaaDatY
namespace Go.Proofs.Ytbgbajamjcohoaa.Oct
open Go.RowKit
set_option linter.unusedVariables false

set_option maxRecDepth 100000 in
set_option maxHeartbeats 4000000 in
theorem datumParses_any {w : World} {A : Option Addr} {n c : Nat} {l : List Int} (h : Rd .u8 w w.heap.size A n c l) (hl : By l) (hc : n ≤ 140737488351232) :
    Calls Try.prog 4 #[.slice A n c] w fun e w' => e = .returned (.bool true) ∧ Below w.heap.size w w' := by
  have H1 := Kp.mk (fun (w1 : World) (A1 : Option Addr) (n1 c1 : Nat) (B : Nat) (h : Rd .u8 w1 B A1 n1 c1 l) (hB : B ≤ w1.heap.size) => parse_any h hl hB)
  have H2 := Kp.mk (fun (w1 : World) (A1 : Option Addr) (n1 c1 : Nat) (B : Nat) (h : Rd .u8 w1 B A1 n1 c1 l) (hB : B ≤ w1.heap.size) => refParse_any h hl hB)
  generalize parseD l = X at *
  obtain ⟨⟨q1, q2, q3, q4, q5, q6⟩, e0⟩ := X
  have hE := same_header q4 q5 q6
  go_enter Try.func4, Try.ntmps4
  go_wp2_with fail
  refine (copyBytes_any h (by omega)).mono ?_
  rintro e w1 ⟨A1, n1, c1, rfl, ho1, t1⟩
  have hn1 : n1 = n := by have := ho1.len; have := h.len; omega
  subst hn1
  have z1 := t1.size
  have r1 := ho1.rd
  have rb1 := h.below t1
  clear ho1 hc
  go_wp2_with fail
  refine (H1.out _ _ _ _ _ r1 (Nat.le_refl _)).mono ?_
  rintro e w2 ⟨rfl, t2⟩
  have z2 := t2.size
  go_wp2_with fail
  have t3 := t2.trans ((below_alloc w2 (.cells #[.int .i64 q1, .int .i64 q2, .int .i64 q3, .int .u8 q4, .int .u8 q5, .int .u8 q6] 25)).mono z2)
  have hx3 := Bk.new w2 q1 q2 q3 q4 q5 q6
  have z3 : (w2.alloc (.cells #[.int .i64 q1, .int .i64 q2, .int .i64 q3, .int .u8 q4, .int .u8 q5, .int .u8 q6] 25)).heap.size = w2.heap.size + 1 := by simp
  generalize (w2.alloc (.cells #[.int .i64 q1, .int .i64 q2, .int .i64 q3, .int .u8 q4, .int .u8 q5, .int .u8 q6] 25)) = w3 at *
  have r3 := r1.below t3
  have rb3 := rb1.below' t3 z1
  refine (H2.out _ _ _ _ _ rb3 (by omega)).mono ?_
  rintro e w4 ⟨rfl, t4⟩
  have z4 := t4.size
  have hx4 := hx3.below t4 (by omega)
  have t45 := t4.trans ((below_alloc w4 (.cells #[.int .i64 q1, .int .i64 q2, .int .i64 q3, .int .u8 q4, .int .u8 q5, .int .u8 q6] 25)).mono z4)
  have T := (t1.trans (t3.mono z1)).trans (t45.mono (by omega))
  have r5 := Kp.mk (r3.below' t45 (by omega))
  have rb5 := Kp.mk (rb3.below' t45 (by omega))
  have hf4 := (hx4.below (below_alloc w4 (.cells #[.int .i64 q1, .int .i64 q2, .int .i64 q3, .int .u8 q4, .int .u8 q5, .int .u8 q6] 25)) (by omega)).cells
  obtain ⟨d0, d1, d2, d3, d4, d5⟩ := hf4
  clear hx3 hx4 r3 rb3 rb1 r1
  go_wp2_with fail
  refine (eqBytes_any r5.out rb5.out hl hl).mono ?_
  rw [show decide (l = l) = true from by simp]
  rintro e w' ⟨rfl, rfl⟩
  have zz := T.size
  generalize hW : (w4.alloc (.cells #[.int .i64 q1, .int .i64 q2, .int .i64 q3, .int .u8 q4, .int .u8 q5, .int .u8 q6] 25)) = w5 at *
  go_wp2_with fail
  refine (worksD_any _).mono ?_
  rintro e w9 ⟨rfl, hb9⟩
  go_wp2_with fail
  go_ret
  exact ⟨rfl, T.trans (hb9.mono zz)⟩

theorem DatumParses_walk (A0 : Option Addr) (n0 c0 : Nat) (z0 : List Int) (w : World) (w0 : Frame.IsRow .u8 w A0 n0 c0 z0) (re0 : c0 * 1 ≤ 140737488351232) :
    Calls Try.prog 4 #[.slice A0 n0 c0] w fun e w' => e = .returned (.bool true) ∧ Below w.heap.size w w' :=
  datumParses_any (Rd.of_row w0) (By.of_row w0) (by have := (Rd.of_row w0).le; omega)
end Go.Proofs.Ytbgbajamjcohoaa.Oct
