/- The walks of ProbeFinds and ProbeParses. -/
import Derived.Test.YtikmgemfbdpfiaaPrbJ
import Derived.Test.YtikmgemfbdpfiaaPrbX
namespace Go.Proofs.Ytikmgemfbdpfiaa.Oct
open Go.RowKit
set_option linter.unusedVariables false

set_option maxRecDepth 100000 in
set_option maxHeartbeats 4000000 in
theorem probeFinds_any (f p t q n to po : Int) (w : World) :
    Calls Try.prog 5 #[.agg #[.int .i64 f, .int .i64 p, .int .i64 t, .int .i64 q, .int .i64 n], .int .i64 to, .int .i64 po] w fun e w' => e = .returned (.bool true) ∧ Below w.heap.size w w' := by
  have H1 := Kp.mk (fun w => found_any f p t q n to po w)
  have H2 := Kp.mk (fun w => refFound_any f p t q n to po w)
  generalize foundQ f p t q n to po = X at *
  obtain ⟨⟨q1, q2, q3, q4, q5⟩, e0⟩ := X
  go_enter Try.func5, Try.ntmps5
  go_wp2_with fail
  have hb0 := below_alloc w (.cells #[.int .i64 f, .int .i64 p, .int .i64 t, .int .i64 q, .int .i64 n] 23)
  have hx0 : Nb 23 (w.alloc (.cells #[.int .i64 f, .int .i64 p, .int .i64 t, .int .i64 q, .int .i64 n] 23)) w.heap.size [f, p, t, q, n] := Nb.new 23 w [f, p, t, q, n]
  generalize (w.alloc (.cells #[.int .i64 f, .int .i64 p, .int .i64 t, .int .i64 q, .int .i64 n] 23)) = w0 at *
  refine (H1.out w0).mono ?_
  rintro e w1 ⟨rfl, hb1⟩
  have hx1 := hx0.below hb1 hx0.lt
  have z1 := hx1.lt
  have hT1 := hb0.trans (hb1.mono hb0.size)
  have b2 : Nb 23 (w1.alloc (.cells #[.int .i64 q1, .int .i64 q2, .int .i64 q3, .int .i64 q4, .int .i64 q5] 23)) w1.heap.size [q1, q2, q3, q4, q5] := Nb.new 23 w1 [q1, q2, q3, q4, q5]
  have hx2 := hx1.alloc (.cells #[.int .i64 q1, .int .i64 q2, .int .i64 q3, .int .i64 q4, .int .i64 q5] 23)
  have hT2 := hT1.alloc hT1.size (.cells #[.int .i64 q1, .int .i64 q2, .int .i64 q3, .int .i64 q4, .int .i64 q5] 23)
  obtain ⟨d0, d1, d2, d3, d4⟩ := hx2.five
  go_wp2_with fail
  generalize (w1.alloc (.cells #[.int .i64 q1, .int .i64 q2, .int .i64 q3, .int .i64 q4, .int .i64 q5] 23)) = w2 at *
  clear d0 d1 d2 d3 d4
  refine (H2.out w2).mono ?_
  rintro e w3 ⟨rfl, hb3⟩
  have b3 := b2.below hb3 b2.lt
  have hT3 := hT2.trans (hb3.mono hT2.size)
  have b4 := b3.alloc (.cells #[.int .i64 q1, .int .i64 q2, .int .i64 q3, .int .i64 q4, .int .i64 q5] 23)
  have hT4 := hT3.alloc hT3.size (.cells #[.int .i64 q1, .int .i64 q2, .int .i64 q3, .int .i64 q4, .int .i64 q5] 23)
  have z4 := hT4.size
  obtain ⟨d0, d1, d2, d3, d4⟩ := b4.five
  go_wp2_with fail
  generalize (w3.alloc (.cells #[.int .i64 q1, .int .i64 q2, .int .i64 q3, .int .i64 q4, .int .i64 q5] 23)) = w4 at *
  refine (worksQ_any w4).mono ?_
  rintro e w9 ⟨rfl, hb9⟩
  go_wp2_with fail
  go_ret
  exact ⟨rfl, hT4.trans (hb9.mono z4)⟩

theorem ProbeFinds_walk (zs : List Int) (to po : Int) (w : World) (lz : zs.length = 5) (hw : ∀ p ∈ [IntKind.i64, .i64, .i64, .i64, .i64].zip zs, (Lit.int p.1 p.2).wf = true) (_ : (Lit.int .i64 to).wf = true) (_ : (Lit.int .i64 po).wf = true) :
    Calls Try.prog 5 #[.agg (List.zipWith Value.int [IntKind.i64, .i64, .i64, .i64, .i64] zs).toArray, .int .i64 to, .int .i64 po] w fun e w' => e = .returned (.bool true) ∧ Below w.heap.size w w' := by
  obtain ⟨f, p, t, q, n, rfl, _⟩ := five_of zs lz hw
  exact probeFinds_any f p t q n to po w

set_option maxRecDepth 100000 in
set_option maxHeartbeats 4000000 in
theorem probeParses_any {w : World} {A : Option Addr} {n c : Nat} {l : List Int} (h : Rd .u8 w w.heap.size A n c l) (hl : By l) (hc : n ≤ 140737488351232) :
    Calls Try.prog 4 #[.slice A n c] w fun e w' => e = .returned (.bool true) ∧ Below w.heap.size w w' := by
  have H1 := Kp.mk (fun (w1 : World) (A1 : Option Addr) (n1 c1 : Nat) (B : Nat) (h : Rd .u8 w1 B A1 n1 c1 l) (hB : B ≤ w1.heap.size) => parseQ_any h hl hB)
  have H2 := Kp.mk (fun (w1 : World) (A1 : Option Addr) (n1 c1 : Nat) (B : Nat) (h : Rd .u8 w1 B A1 n1 c1 l) (hB : B ≤ w1.heap.size) => refParseQ_any h hl hB)
  generalize parseQ l = X at *
  obtain ⟨⟨q1, q2, q3, q4, q5⟩, e0⟩ := X
  go_enter Try.func4, Try.ntmps4
  go_wp2_with fail
  refine (copyBytes_any h (by omega)).mono ?_
  rintro e w1 ⟨A1, n1, c1, rfl, ho1, t1⟩
  have hn1 : n1 = n := by have := ho1.len; have := h.len; omega
  subst hn1
  have z1 := t1.size
  have r1 := ho1.rd
  have rb1 := h.below t1
  clear ho1 hc
  go_wp2_with fail
  refine (H1.out _ _ _ _ _ r1 (Nat.le_refl _)).mono ?_
  rintro e w2 ⟨rfl, t2⟩
  have z2 := t2.size
  go_wp2_with fail
  have t3 := t2.trans ((below_alloc w2 (.cells #[.int .i64 q1, .int .i64 q2, .int .i64 q3, .int .i64 q4, .int .i64 q5] 23)).mono z2)
  have hx3 : Nb 23 (w2.alloc (.cells #[.int .i64 q1, .int .i64 q2, .int .i64 q3, .int .i64 q4, .int .i64 q5] 23)) w2.heap.size [q1, q2, q3, q4, q5] := Nb.new 23 w2 [q1, q2, q3, q4, q5]
  have z3 : (w2.alloc (.cells #[.int .i64 q1, .int .i64 q2, .int .i64 q3, .int .i64 q4, .int .i64 q5] 23)).heap.size = w2.heap.size + 1 := by simp
  generalize (w2.alloc (.cells #[.int .i64 q1, .int .i64 q2, .int .i64 q3, .int .i64 q4, .int .i64 q5] 23)) = w3 at *
  have r3 := r1.below t3
  have rb3 := rb1.below' t3 z1
  refine (H2.out _ _ _ _ _ rb3 (by omega)).mono ?_
  rintro e w4 ⟨rfl, t4⟩
  have z4 := t4.size
  have t45 := t4.trans ((below_alloc w4 (.cells #[.int .i64 q1, .int .i64 q2, .int .i64 q3, .int .i64 q4, .int .i64 q5] 23)).mono z4)
  have T := (t1.trans (t3.mono z1)).trans (t45.mono (by omega))
  have r5 := Kp.mk (r3.below' t45 (by omega))
  have rb5 := Kp.mk (rb3.below' t45 (by omega))
  have hf4 := hx3.below t45 (by omega)
  obtain ⟨d0, d1, d2, d3, d4⟩ := hf4.five
  clear hx3 hf4 r3 rb3 rb1 r1
  go_wp2_with fail
  refine (eqBytes_any r5.out rb5.out hl hl).mono ?_
  rw [show decide (l = l) = true from by simp]
  rintro e w' ⟨rfl, rfl⟩
  have zz := T.size
  generalize hW : (w4.alloc (.cells #[.int .i64 q1, .int .i64 q2, .int .i64 q3, .int .i64 q4, .int .i64 q5] 23)) = w5 at *
  go_wp2_with fail
  refine (worksQ_any _).mono ?_
  rintro e w9 ⟨rfl, hb9⟩
  go_wp2_with fail
  go_ret
  exact ⟨rfl, T.trans (hb9.mono zz)⟩

theorem ProbeParses_walk (A0 : Option Addr) (n0 c0 : Nat) (z0 : List Int) (w : World) (w0 : Frame.IsRow .u8 w A0 n0 c0 z0) (re0 : c0 * 1 ≤ 140737488351232) :
    Calls Try.prog 4 #[.slice A0 n0 c0] w fun e w' => e = .returned (.bool true) ∧ Below w.heap.size w w' :=
  probeParses_any (Rd.of_row w0) (By.of_row w0) (by have := (Rd.of_row w0).le; omega)
end Go.Proofs.Ytikmgemfbdpfiaa.Oct
