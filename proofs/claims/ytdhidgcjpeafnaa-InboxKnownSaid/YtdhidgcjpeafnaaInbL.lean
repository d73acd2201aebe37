/- Layer 14 (inbox): the document's on, Take. -/
import Derived.Test.YtdhidgcjpeafnaaInbJ
import Derived.RegionTactic
import Derived.ChangeAlike
namespace Go.Proofs.Ytdhidgcjpeafnaa.Oct
open Go.RowKit
set_option linter.unusedVariables false
set_option linter.unusedSimpArgs false
section
variable {P Q S : Nat → Prop} {w w' : World} {m : Nat} {base : Int} {m0 m1 m2 m3 : Option FrV}
set_option maxRecDepth 100000 in
set_option maxHeartbeats 4000000 in
theorem mon_any (h : Rm P w m base m0 m1 m2 m3) : Calls Try.prog 29 #[.pointer (some ⟨m, 0, none⟩)] w fun e w' => e = .returned (.tuple #[]) ∧ Rm P w' m (Ser.plusP base 1) m1 m2 m3 none ∧ Ch (fun k => k = m) w w' := by
  have hV := h.vb
  have c0 := hV.cell 0 rfl
  have f0 := hV.free 0
  have hP := Ser.refPlus_any base 1 w h.r0 h.r1
  have H := Kp.mk h
  clear h
  obtain ⟨b0, hb0⟩ : ∃ b, b = m0.isSome := ⟨_, rfl⟩
  obtain ⟨b1, hb1⟩ : ∃ b, b = m1.isSome := ⟨_, rfl⟩
  obtain ⟨b2, hb2⟩ : ∃ b, b = m2.isSome := ⟨_, rfl⟩
  obtain ⟨b3, hb3⟩ : ∃ b, b = m3.isSome := ⟨_, rfl⟩
  have hv : ∀ o : Option FrV, ∃ A n c, fvO o = .slice A n c := fun o => by cases o; exact ⟨_, _, _, rfl⟩; exact ⟨_, _, _, rfl⟩
  obtain ⟨A0, n0, e0, hv0⟩ := hv m0
  obtain ⟨A1, n1, e1, hv1⟩ := hv m1
  obtain ⟨A2, n2, e2, hv2⟩ := hv m2
  obtain ⟨A3, n3, e3, hv3⟩ := hv m3
  rw [← hb0, ← hb1, ← hb2, ← hb3, hv0, hv1, hv2, hv3] at hV
  have HB := Kp.mk (And.intro hb1 (And.intro hb2 (And.intro hb3 (And.intro hv1 (And.intro hv2 hv3)))))
  clear hv hb0 hb1 hb2 hb3 hv0 hv1 hv2 hv3
  have hV1 : Vb 59 (w.setCell ⟨m, 0, none⟩ (.int .i64 (Ser.plusP base 1))) m [.int .i64 (Ser.plusP base 1), .bool b0, .bool b1, .bool b2, .bool b3, .slice A0 n0 e0, .slice A1 n1 e1, .slice A2 n2 e2, .slice A3 n3 e3] := hV.set 0 _
  have hC1 : Ch (fun k => k = m) w (w.setCell ⟨m, 0, none⟩ (.int .i64 (Ser.plusP base 1))) := .of_grown (grownBy_set w m 0 _)
  clear hV
  go_enter Try.func29, Try.ntmps29
  go_wp2_with (refine hP.mono ?_; rintro e q ⟨rfl, hq⟩; subst hq)
  clear hP c0 f0
  generalize w.setCell _ _ = w0 at *
  refine wp_loop_rounds 4 ?_
  rw [rounds_succ]
  go_wp2_with fail
  have d1 := hV1.cell 1 rfl
  have d2 := hV1.cell 2 rfl
  have f1 := hV1.free 1
  have hV2 := hV1.set 1 (.bool b1)
  have hC2 := hC1.trans (Ch.of_grown (grownBy_set w0 m 1 (.bool b1))) (fun _ _ e => e)
  have HX := Kp.mk (And.intro hV2 hC2)
  clear hV1 hC1 hV2 hC2
  go_region
  obtain ⟨hV1, hC1⟩ := HX.out
  have hV1 : Vb 59 ((w0.setCell ⟨m, 1, none⟩ (.bool b1)).drew) m [.int .i64 (Ser.plusP base 1), .bool b1, .bool b1, .bool b2, .bool b3, .slice A0 n0 e0, .slice A1 n1 e1, .slice A2 n2 e2, .slice A3 n3 e3] := hV1
  have hC1 : Ch (fun k => k = m) w ((w0.setCell ⟨m, 1, none⟩ (.bool b1)).drew) := ⟨hC1.os, hC1.tape, hC1.output, hC1.size, hC1.block⟩
  clear HX d1 d2 f1
  generalize hgw : (w0.setCell ⟨m, 1, none⟩ (.bool b1)).drew = w1 at *
  clear hgw
  go_wp2_with fail
  have d1 := hV1.cell 5 rfl
  have d2 := hV1.cell 6 rfl
  have f1 := hV1.free 5
  have hV2 := hV1.set 5 (.slice A1 n1 e1)
  have hC2 := hC1.trans (Ch.of_grown (grownBy_set w1 m 5 (.slice A1 n1 e1))) (fun _ _ e => e)
  have HX := Kp.mk (And.intro hV2 hC2)
  clear hV1 hC1 hV2 hC2
  go_region
  obtain ⟨hV1, hC1⟩ := HX.out
  have hV1 : Vb 59 ((w1.setCell ⟨m, 5, none⟩ (.slice A1 n1 e1)).drew) m [.int .i64 (Ser.plusP base 1), .bool b1, .bool b1, .bool b2, .bool b3, .slice A1 n1 e1, .slice A1 n1 e1, .slice A2 n2 e2, .slice A3 n3 e3] := hV1
  have hC1 : Ch (fun k => k = m) w ((w1.setCell ⟨m, 5, none⟩ (.slice A1 n1 e1)).drew) := ⟨hC1.os, hC1.tape, hC1.output, hC1.size, hC1.block⟩
  clear HX d1 d2 f1
  generalize hgw : (w1.setCell ⟨m, 5, none⟩ (.slice A1 n1 e1)).drew = w2 at *
  clear hgw
  go_wp2_with fail
  rw [rounds_succ]
  go_wp2_with fail
  have d1 := hV1.cell 2 rfl
  have d2 := hV1.cell 3 rfl
  have f1 := hV1.free 2
  have hV2 := hV1.set 2 (.bool b2)
  have hC2 := hC1.trans (Ch.of_grown (grownBy_set w2 m 2 (.bool b2))) (fun _ _ e => e)
  have HX := Kp.mk (And.intro hV2 hC2)
  clear hV1 hC1 hV2 hC2
  go_region
  obtain ⟨hV1, hC1⟩ := HX.out
  have hV1 : Vb 59 ((w2.setCell ⟨m, 2, none⟩ (.bool b2)).drew) m [.int .i64 (Ser.plusP base 1), .bool b1, .bool b2, .bool b2, .bool b3, .slice A1 n1 e1, .slice A1 n1 e1, .slice A2 n2 e2, .slice A3 n3 e3] := hV1
  have hC1 : Ch (fun k => k = m) w ((w2.setCell ⟨m, 2, none⟩ (.bool b2)).drew) := ⟨hC1.os, hC1.tape, hC1.output, hC1.size, hC1.block⟩
  clear HX d1 d2 f1
  generalize hgw : (w2.setCell ⟨m, 2, none⟩ (.bool b2)).drew = w3 at *
  clear hgw
  go_wp2_with fail
  have d1 := hV1.cell 6 rfl
  have d2 := hV1.cell 7 rfl
  have f1 := hV1.free 6
  have hV2 := hV1.set 6 (.slice A2 n2 e2)
  have hC2 := hC1.trans (Ch.of_grown (grownBy_set w3 m 6 (.slice A2 n2 e2))) (fun _ _ e => e)
  have HX := Kp.mk (And.intro hV2 hC2)
  clear hV1 hC1 hV2 hC2
  go_region
  obtain ⟨hV1, hC1⟩ := HX.out
  have hV1 : Vb 59 ((w3.setCell ⟨m, 6, none⟩ (.slice A2 n2 e2)).drew) m [.int .i64 (Ser.plusP base 1), .bool b1, .bool b2, .bool b2, .bool b3, .slice A1 n1 e1, .slice A2 n2 e2, .slice A2 n2 e2, .slice A3 n3 e3] := hV1
  have hC1 : Ch (fun k => k = m) w ((w3.setCell ⟨m, 6, none⟩ (.slice A2 n2 e2)).drew) := ⟨hC1.os, hC1.tape, hC1.output, hC1.size, hC1.block⟩
  clear HX d1 d2 f1
  generalize hgw : (w3.setCell ⟨m, 6, none⟩ (.slice A2 n2 e2)).drew = w4 at *
  clear hgw
  go_wp2_with fail
  rw [rounds_succ]
  go_wp2_with fail
  have d1 := hV1.cell 3 rfl
  have d2 := hV1.cell 4 rfl
  have f1 := hV1.free 3
  have hV2 := hV1.set 3 (.bool b3)
  have hC2 := hC1.trans (Ch.of_grown (grownBy_set w4 m 3 (.bool b3))) (fun _ _ e => e)
  have HX := Kp.mk (And.intro hV2 hC2)
  clear hV1 hC1 hV2 hC2
  go_region
  obtain ⟨hV1, hC1⟩ := HX.out
  have hV1 : Vb 59 ((w4.setCell ⟨m, 3, none⟩ (.bool b3)).drew) m [.int .i64 (Ser.plusP base 1), .bool b1, .bool b2, .bool b3, .bool b3, .slice A1 n1 e1, .slice A2 n2 e2, .slice A2 n2 e2, .slice A3 n3 e3] := hV1
  have hC1 : Ch (fun k => k = m) w ((w4.setCell ⟨m, 3, none⟩ (.bool b3)).drew) := ⟨hC1.os, hC1.tape, hC1.output, hC1.size, hC1.block⟩
  clear HX d1 d2 f1
  generalize hgw : (w4.setCell ⟨m, 3, none⟩ (.bool b3)).drew = w5 at *
  clear hgw
  go_wp2_with fail
  have d1 := hV1.cell 7 rfl
  have d2 := hV1.cell 8 rfl
  have f1 := hV1.free 7
  have hV2 := hV1.set 7 (.slice A3 n3 e3)
  have hC2 := hC1.trans (Ch.of_grown (grownBy_set w5 m 7 (.slice A3 n3 e3))) (fun _ _ e => e)
  have HX := Kp.mk (And.intro hV2 hC2)
  clear hV1 hC1 hV2 hC2
  go_region
  obtain ⟨hV1, hC1⟩ := HX.out
  have hV1 : Vb 59 ((w5.setCell ⟨m, 7, none⟩ (.slice A3 n3 e3)).drew) m [.int .i64 (Ser.plusP base 1), .bool b1, .bool b2, .bool b3, .bool b3, .slice A1 n1 e1, .slice A2 n2 e2, .slice A3 n3 e3, .slice A3 n3 e3] := hV1
  have hC1 : Ch (fun k => k = m) w ((w5.setCell ⟨m, 7, none⟩ (.slice A3 n3 e3)).drew) := ⟨hC1.os, hC1.tape, hC1.output, hC1.size, hC1.block⟩
  clear HX d1 d2 f1
  generalize hgw : (w5.setCell ⟨m, 7, none⟩ (.slice A3 n3 e3)).drew = w6 at *
  clear hgw
  go_wp2_with fail
  rw [rounds_succ]
  have d1 := hV1.cell 4 rfl
  have d2 := hV1.cell 8 rfl
  have f1 := hV1.free 4
  have f2 := hV1.free 8
  have hV2 := (hV1.set 4 (.bool false)).set 8 (.slice none 0 0)
  have hC2 := hC1.trans ((Ch.of_grown (grownBy_set w6 m 4 (.bool false))).trans (Ch.of_grown (grownBy_set _ m 8 (.slice none 0 0))) (fun _ _ e => e)) (fun _ _ e => e)
  have HX := Kp.mk (And.intro hV2 hC2)
  clear hV1 hC1 hV2 hC2
  go_wp2_with fail
  go_end0
  obtain ⟨hV2, hC2⟩ := HX.out
  obtain ⟨a1, a2, a3, a4, a5, a6⟩ := HB.out
  have hbd := plusP_bd base 1
  refine ⟨rfl, ⟨?_, fun f e => (H.out.f1 f e).stay hC2 (fun b cs k _ _ hb e => H.out.nob b cs k e hb), fun f e => (H.out.f2 f e).stay hC2 (fun b cs k _ _ hb e => H.out.nob b cs k e hb), fun f e => (H.out.f3 f e).stay hC2 (fun b cs k _ _ hb e => H.out.nob b cs k e hb), fun f e => by simp at e, hbd.1, hbd.2⟩, hC2⟩
  rw [← a1, ← a2, ← a3, a4, a5, a6]
  exact hV2
theorem ahead_in {base seq : Int} (h : (seq - base) % 65536 < 4) : Ser.aheadP base seq = (seq - base) % 65536 := by unfold Ser.aheadP; rw [if_neg (by omega)]
theorem ahead_out {base seq : Int} (h : ¬ (seq - base) % 65536 < 4) : Ser.aheadP base seq < 0 ∨ 3 < Ser.aheadP base seq := by unfold Ser.aheadP; split <;> omega
set_option maxRecDepth 100000 in
theorem mtake_arg (m : Nat) (w : World) (seq : Int) (hq : seq < 0 ∨ 65535 < seq) (A : Option Addr) (n c : Nat) : Calls Try.prog 12 #[.pointer (some ⟨m, 0, none⟩), .int .i64 seq, .slice A n c] w fun e w' => e = .returned (.tuple #[.slice none 0 0, .int .i64 2]) ∧ w' = w := by
  by_cases h0 : seq < 0
  · go_enter Try.func12, Try.ntmps12
    go_wp2_with fail
    go_ret2
    exact ⟨rfl, rfl⟩
  · have h1 : 65535 < seq := by omega
    clear hq
    go_enter Try.func12, Try.ntmps12
    go_wp2_with fail
    go_ret2
    exact ⟨rfl, rfl⟩
set_option maxRecDepth 100000 in
theorem mtake_range (h : Rm P w m base m0 m1 m2 m3) (seq : Int) (h0 : 0 ≤ seq) (h1 : seq ≤ 65535) (hd : ¬ (seq - base) % 65536 < 4) (A : Option Addr) (n c : Nat) : Calls Try.prog 12 #[.pointer (some ⟨m, 0, none⟩), .int .i64 seq, .slice A n c] w fun e w' => e = .returned (.tuple #[.slice none 0 0, .int .i64 9]) ∧ w' = w := by
  have c0 := h.vb.cell 0 rfl
  have hA := Ser.refAhead_any base seq w h.r0 h.r1 h0 (by omega)
  have ho := ahead_out hd
  clear h hd
  generalize Ser.aheadP base seq = z at *
  by_cases hz : z < 0
  · clear ho
    go_enter Try.func12, Try.ntmps12
    go_wp2_with (refine hA.mono ?_; rintro e q ⟨rfl, hq⟩; subst hq)
    go_ret2
    exact ⟨rfl, rfl⟩
  · have hz3 : 3 < z := by omega
    clear ho
    go_enter Try.func12, Try.ntmps12
    go_wp2_with (refine hA.mono ?_; rintro e q ⟨rfl, hq⟩; subst hq)
    go_ret2
    exact ⟨rfl, rfl⟩
/-- The cells, whichever place. -/
theorem rm_has (h : Rm P w m base m0 m1 m2 m3) (d : Nat) (hd : d < 4) : w.cell? ⟨m, 1 + d, none⟩ = some (.bool ([m0, m1, m2, m3].getD d none).isSome) := by
  have cases4 : d = 0 ∨ d = 1 ∨ d = 2 ∨ d = 3 := by omega
  rcases cases4 with rfl | rfl | rfl | rfl <;> exact h.vb.cell _ rfl
theorem rm_l (h : Rm P w m base m0 m1 m2 m3) (d : Nat) (hd : d < 4) : w.cell? ⟨m, 5 + d, none⟩ = some (fvO ([m0, m1, m2, m3].getD d none)) := by
  have cases4 : d = 0 ∨ d = 1 ∨ d = 2 ∨ d = 3 := by omega
  rcases cases4 with rfl | rfl | rfl | rfl <;> exact h.vb.cell _ rfl
theorem rm_set {cs : List Value} {d : Nat} {f : FrV} {g0 g1 g2 g3 : Option FrV} (hd : d < 4) (hg : [m0, m1, m2, m3].set d (some f) = [g0, g1, g2, g3])
    (hcs : cs = ([.int .i64 base, .bool m0.isSome, .bool m1.isSome, .bool m2.isSome, .bool m3.isSome, fvO m0, fvO m1, fvO m2, fvO m3] : List Value)) : (cs.set (1 + d) (.bool true)).set (5 + d) (.slice f.A f.n f.c) = [.int .i64 base, .bool g0.isSome, .bool g1.isSome, .bool g2.isSome, .bool g3.isSome, fvO g0, fvO g1, fvO g2, fvO g3] := by
  subst hcs
  have cases4 : d = 0 ∨ d = 1 ∨ d = 2 ∨ d = 3 := by omega
  rcases cases4 with rfl | rfl | rfl | rfl <;> (simp at hg; obtain ⟨rfl, rfl, rfl, rfl⟩ := hg; rfl)
set_option maxRecDepth 100000 in
set_option maxHeartbeats 4000000 in
/-- One of its number is there already, and it is not the next one. -/
theorem mtake_has (h : Rm P w m base none m1 m2 m3) (seq : Int) (h0 : 0 ≤ seq) (h1 : seq ≤ 65535) (d : Nat) (hd : d < 4) (hs : (seq - base) % 65536 = d) (hh : ([none, m1, m2, m3].getD d none).isSome = true) (A : Option Addr) (n c : Nat) : Calls Try.prog 12 #[.pointer (some ⟨m, 0, none⟩), .int .i64 seq, .slice A n c] w fun e w' => e = .returned (.tuple #[.slice none 0 0, .int .i64 0]) ∧ w' = w := by
  have c0 := h.vb.cell 0 rfl
  have c1 := rm_has h d hd
  have cz := h.vb.cell 1 rfl
  rw [hh] at c1
  have hA := Ser.refAhead_any base seq w h.r0 h.r1 h0 (by omega)
  rw [ahead_in (by omega), hs] at hA
  have hd0 : (d : Int) < 4 := by omega
  change w.cell? ⟨m, 1, none⟩ = some (.bool false) at cz
  clear h hs hh
  go_enter Try.func12, Try.ntmps12
  go_wp2_with (refine hA.mono ?_; rintro e q ⟨rfl, hq⟩; subst hq)
  refine wp_loop_rounds 1 ?_
  rw [rounds_succ]
  clear hA c1
  go_wp2_with fail
  go_ret2
  exact ⟨rfl, rfl⟩
theorem four_setO (f m1 m2 m3 : Option FrV) (d : Nat) (hd : d < 4) : ∃ g0 g1 g2 g3, [none, m1, m2, m3].set d f = [g0, g1, g2, g3] := by
  have cases4 : d = 0 ∨ d = 1 ∨ d = 2 ∨ d = 3 := by omega
  rcases cases4 with rfl | rfl | rfl | rfl <;> exact ⟨_, _, _, _, rfl⟩
/-- What holds while messages are told. -/
def TkR (P : Nat → Prop) (w : World) (m : Nat) (base : Int) (g0 g1 g2 g3 : Option FrV) (s9 : Value) (wr : World) : Prop :=
  ∃ (A : Option Addr) (n c : Nat) (gs : List FrV) (q0 q1 q2 q3 : Option FrV) (by' : Int), s9 = .slice A n c ∧ Orw wr w.heap.size (.slice A n c) n gs ∧ Rm P wr m by' q0 q1 q2 q3 ∧ gs ++ fol4 q0 q1 q2 q3 = fol4 g0 g1 g2 g3 ∧ n + cnt4 q0 q1 q2 q3 ≤ 4 ∧ by' = Ser.plusP base n ∧ rst4 q0 q1 q2 q3 = rst4 g0 g1 g2 g3 ∧ (∀ f ∈ gs, Fb P wr f) ∧ Ch (fun k => k = m) w wr
set_option maxRecDepth 100000 in
set_option maxHeartbeats 4000000 in
theorem mtake_new (h : Rm P w m base none m1 m2 m3) (seq : Int) (h0 : 0 ≤ seq) (h1 : seq ≤ 65535) (d : Nat) (hd : d < 4) (hs : (seq - base) % 65536 = d) (hh : ([none, m1, m2, m3].getD d none).isSome = false) {n c : Nat} {A : Option Addr} {bs : List Int} {B : Nat} (hr : Rd .u8 w B A n c bs) (hBm : B ≤ m) (hby : By bs) (hn : n ≤ 140737488351232) : Calls Try.prog 12 #[.pointer (some ⟨m, 0, none⟩), .int .i64 seq, .slice A n c] w fun e w' => ∃ (f : FrV) (g0 g1 g2 g3 : Option FrV) (A' : Option Addr) (n' c' : Nat) (gs : List FrV), [none, m1, m2, m3].set d (some f) = [g0, g1, g2, g3] ∧ f.l = bs ∧ e = .returned (.tuple #[.slice A' n' c', .int .i64 0]) ∧ Orw w' w.heap.size (.slice A' n' c') n' gs ∧ gs = fol4 g0 g1 g2 g3 ∧ (∀ f ∈ gs, Fb (fun b => P b ∨ w.heap.size ≤ b) w' f) ∧ Rm (fun b => P b ∨ w.heap.size ≤ b) w' m (Ser.plusP base n') none (rst4 g0 g1 g2 g3).1 (rst4 g0 g1 g2 g3).2.1 (rst4 g0 g1 g2 g3).2.2 ∧ Ch (fun k => k = m) w w' := by
  have c0 := h.vb.cell 0 rfl
  have c1 := rm_has h d hd
  have f1 := h.vb.free (1 + d)
  rw [hh] at c1
  have hA := Ser.refAhead_any base seq w h.r0 h.r1 h0 (by omega)
  rw [ahead_in (by omega), hs] at hA
  have hd0 : (d : Int) < 4 := by omega
  have hV1 := h.vb.set (1 + d) (.bool true)
  have hC1 : Ch (fun k => k = m) w (w.setCell ⟨m, 1 + d, none⟩ (.bool true)) := .of_grown (grownBy_set w m (1 + d) _)
  have hf1 : Rd .u8 (w.setCell ⟨m, 1 + d, none⟩ (.bool true)) B A n c bs ∧ By bs ∧ n ≤ 140737488351232 := ⟨hr.below (hC1.below (B := B) (fun x e => by rw [e]; exact hBm) (by have := h.vb.lt; omega)), hby, hn⟩
  have HS := Kp.mk hC1.size
  have H := Kp.mk h
  have HC1 := Kp.mk hC1
  have HV1 := Kp.mk hV1
  have HF1 := Kp.mk hf1
  clear h hs hh hV1 hC1 hf1 hr hby hn
  go_enter Try.func12, Try.ntmps12
  go_upto_region 8 with (refine hA.mono ?_; rintro e q ⟨rfl, hq⟩; subst hq)
  clear hA c0 c1 f1
  obtain ⟨hgw, HG⟩ : ∃ z, z = w.setCell ⟨m, 1 + d, none⟩ (.bool true) := ⟨_, rfl⟩
  rw [← HG] at HS HC1 HV1 HF1 ⊢
  refine wp_region_held_drew (S := fun _ => True) (by kernel_rfl) trivial (fun hS0 => ?_)
  have HV2 := Kp.mk (show Vb 59 hgw.drew m _ from HV1.out)
  have HF2 := Kp.mk (show Rd .u8 hgw.drew B A n c bs ∧ By bs ∧ n ≤ 140737488351232 from ⟨HF1.out.1.drew, HF1.out.2⟩)
  have HC2 := Kp.mk (show Ch (fun k => k = m) w hgw.drew from ⟨HC1.out.os, HC1.out.tape, HC1.out.output, HC1.out.size, HC1.out.block⟩)
  clear HV1 HF1 HC1 HS HG
  generalize hgw.drew = u at *
  clear hgw
  refine takeD (i := 0) (v := .pointer (some ⟨m, 0, none⟩)) (some 40) rfl rfl (by kernel_rfl) (by kernel_rfl) (by kernel_rfl) (fun _ _ _ h => h) (Or.inl ⟨by rfl, ?_⟩) hS0 ?_
  · rintro w' hq
    go_simp
  try simp only [Act.put, List.setIfInBounds_toArray, List.set_cons_zero, List.set_cons_succ]
  refine takeD (i := 1) (v := .int .i64 d) (some 41) rfl rfl (by kernel_rfl) (by kernel_rfl) (by kernel_rfl) (fun _ _ _ h => h) (Or.inl ⟨by rfl, ?_⟩) hS0 ?_
  · rintro w' hq
    go_simp
  try simp only [Act.put, List.setIfInBounds_toArray, List.set_cons_zero, List.set_cons_succ]
  refine takeD (i := 2) (v := .slice A n c) (some 42) rfl rfl (by kernel_rfl) (by kernel_rfl) (by kernel_rfl) (fun _ _ _ h => h) (Or.inl ⟨by rfl, ?_⟩) hS0 ?_
  · rintro w' hq
    go_simp
  try simp only [Act.put, List.setIfInBounds_toArray, List.set_cons_zero, List.set_cons_succ]
  refine takeD (i := 4) (v := .pointer (some ⟨m, 0, none⟩)) (some 44) rfl rfl (by kernel_rfl) (by kernel_rfl) (by kernel_rfl) (fun _ _ _ h => h) (Or.inl ⟨by rfl, ?_⟩) hS0 ?_
  · rintro w' hq
    go_simp
  try simp only [Act.put, List.setIfInBounds_toArray, List.set_cons_zero, List.set_cons_succ]
  refine takeD (i := 5) (v := .pointer (some ⟨m, 5, none⟩)) (some 45) rfl rfl (by kernel_rfl) (by kernel_rfl) (by kernel_rfl) (fun _ _ _ h => h) (Or.inl ⟨by rfl, ?_⟩) hS0 ?_
  · rintro w' hq
    go_simp
  try simp only [Act.put, List.setIfInBounds_toArray, List.set_cons_zero, List.set_cons_succ]
  refine wpAnyH_ready (rs := [3]) (by kernel_rfl) (by simp) ?_
  refine AllReadyH.cons rfl (fun K hK => ?_) AllReadyH.nil
  try rw [if_pos (by rfl)]
  go_simp
  refine (copyBytes_any HF2.out.1 (by have := HF2.out.2.2; omega)).mono ?_
  rintro e u2 ⟨gA, gn, gc, rfl, hown, hb⟩
  refine hK.out _ _ trivial (fun _ => ?_)
  clear hK K
  try simp only [Act.put, List.setIfInBounds_toArray, List.set_cons_zero, List.set_cons_succ]
  have hM2 := HV2.out.below hb HV2.out.lt
  have hC3 := HC2.out.trans (Ch.of_below (S := fun k => k = m) hb) (fun _ _ e => e)
  have hfb : Fb (fun b => w.heap.size ≤ b) u2 ⟨gA, gn, gc, bs⟩ := by
    have hgn : gn = n := hown.len.symm.trans HF2.out.1.len
    have h1 := Fb.of_own hown (by have := HF2.out.2.2; omega) HF2.out.2.1
    exact h1.imp (fun b _ hb => Nat.le_trans HC2.out.size hb)
  have HFB := Kp.mk hfb
  have HM2 := Kp.mk hM2
  have HC3 := Kp.mk hC3
  clear hown hb HV2 HF2 HC2 hfb hM2 hC3
  have f2 := HM2.out.free (5 + d)
  have e2 : u2.cell? ⟨m, 5 + d, none⟩ = some (fvO ([none, m1, m2, m3].getD d none)) := HM2.out.cell (5 + d) (by
    have cases4 : d = 0 ∨ d = 1 ∨ d = 2 ∨ d = 3 := by omega
    rcases cases4 with rfl | rfl | rfl | rfl <;> rfl)
  have hM3 := Kp.mk (HM2.out.set (5 + d) (.slice gA gn gc))
  have hC4 := Kp.mk (HC3.out.trans (Ch.of_grown (grownBy_set u2 m (5 + d) (.slice gA gn gc))) (fun _ _ e => e))
  have hF4 := Kp.mk (HFB.out.stay (Ch.of_grown (grownBy_set u2 m (5 + d) (.slice gA gn gc))) (fun b cs k _ _ hb e => by rw [e, show u2.heap[m]? = _ from HM2.out] at hb; have e := Option.some.inj hb; injection e with _ e _; exact absurd e (by decide)))
  refine takeD (i := 6) (v := .pointer (some ⟨m, 5 + d, none⟩)) (some 46) rfl rfl (by kernel_rfl) (by kernel_rfl) (by kernel_rfl) (fun _ _ _ h => h) (Or.inl ⟨by rfl, ?_⟩) hS0 ?_
  · rintro w' hq
    go_simp
  try simp only [Act.put, List.setIfInBounds_toArray, List.set_cons_zero, List.set_cons_succ]
  refine wpAnyH_ready (rs := [7]) (by kernel_rfl) (by simp) ?_
  refine AllReadyH.cons rfl (fun K hK => ?_) AllReadyH.nil
  try rw [if_pos (by rfl)]
  go_simp
  refine hK.out _ _ trivial (fun _ => ?_)
  clear hK K
  try simp only [Act.put, List.setIfInBounds_toArray, List.set_cons_zero, List.set_cons_succ]
  refine wpAnyH_done (by kernel_rfl) ?_ _
  clear f2 e2 HM2 HC3 HFB
  generalize u2.setCell _ _ = u3 at *
  obtain ⟨f, hfd⟩ : ∃ f : FrV, f = ⟨gA, gn, gc, bs⟩ := ⟨_, rfl⟩
  obtain ⟨g0, g1, g2, g3, hgs⟩ := four_setO (some f) m1 m2 m3 d hd
  have HGS := Kp.mk hgs
  have HV := Kp.mk (show Vb 59 u3 m [.int .i64 base, .bool g0.isSome, .bool g1.isSome, .bool g2.isSome, .bool g3.isSome, fvO g0, fvO g1, fvO g2, fvO g3] from by
    have h1 := hM3.out
    rw [show (.slice gA gn gc : Value) = .slice f.A f.n f.c from by rw [hfd]] at h1
    rw [rm_set (base := base) hd hgs rfl] at h1
    exact h1)
  have HFF := Kp.mk (show Fb (fun b => w.heap.size ≤ b) u3 f from by rw [hfd]; exact hF4.out)
  have HRM := Kp.mk (show Rm (fun b => P b ∨ w.heap.size ≤ b) u3 m base g0 g1 g2 g3 from by
    have old : ∀ k, Fb P w k → Fb (fun b => P b ∨ w.heap.size ≤ b) u3 k := fun k hk => (hk.stay hC4.out (fun b cs k _ _ hb e => H.out.nob b cs k e hb)).imp (fun _ _ h => Or.inl h)
    have new := HFF.out.imp (Q := fun b => P b ∨ w.heap.size ≤ b) (fun _ _ h => Or.inr h)
    have o1 : ∀ k, m1 = some k → Fb (fun b => P b ∨ w.heap.size ≤ b) u3 k := fun k e => old k (H.out.f1 k e)
    have o2 : ∀ k, m2 = some k → Fb (fun b => P b ∨ w.heap.size ≤ b) u3 k := fun k e => old k (H.out.f2 k e)
    have o3 : ∀ k, m3 = some k → Fb (fun b => P b ∨ w.heap.size ≤ b) u3 k := fun k e => old k (H.out.f3 k e)
    have nw : ∀ k, some f = some k → Fb (fun b => P b ∨ w.heap.size ≤ b) u3 k := fun k e => by have e := Option.some.inj e; subst e; exact new
    have no : ∀ k, (none : Option FrV) = some k → Fb (fun b => P b ∨ w.heap.size ≤ b) u3 k := fun k e => by simp at e
    have cases4 : d = 0 ∨ d = 1 ∨ d = 2 ∨ d = 3 := by omega
    rcases cases4 with rfl | rfl | rfl | rfl <;> (simp at hgs; obtain ⟨rfl, rfl, rfl, rfl⟩ := hgs)
    · exact ⟨HV.out, nw, o1, o2, o3, H.out.r0, H.out.r1⟩
    · exact ⟨HV.out, no, nw, o2, o3, H.out.r0, H.out.r1⟩
    · exact ⟨HV.out, no, o1, nw, o3, H.out.r0, H.out.r1⟩
    · exact ⟨HV.out, no, o1, o2, nw, H.out.r0, H.out.r1⟩)
  have HFL := Kp.mk (show f.l = bs by rw [hfd])
  clear hM3 hF4 hfd hgs HV HFF
  clear hd0 hS0
  have HSQ := Kp.mk (And.intro h0 (And.intro h1 hd))
  clear h0 h1 hd
  go_wp2_with fail
  go_loopw [9] (fun s9 wr => TkR (fun b => P b ∨ w.heap.size ≤ b) w m base g0 g1 g2 g3 s9 wr) (fun s9 _ => 5 - slN s9)
  case atStart => exact ⟨none, 0, 0, [], g0, g1, g2, g3, base, rfl, Orw.nil0 _ _, HRM.out, rfl, by have := cnt4_le g0 g1 g2 g3; omega, by have := H.out.r0; have := H.out.r1; unfold Ser.plusP; omega, rfl, fun f hf => by simp at hf, hC4.out⟩
  case round =>
    clear HRM hC4
    obtain ⟨A1, n1, c1, gs, q0, q1, q2, q3, by', rfl, hO, hR, hfo, hct, hby, hrs, hfr, hC⟩ := hrel
    have HK := Kp.mk (And.intro hfo (And.intro hct (And.intro hby hrs)))
    have HOK := Kp.mk hO
    have HRK := Kp.mk hR
    have HFK := Kp.mk hfr
    have HCK := Kp.mk hC
    have cz := hR.vb.cell 1 rfl
    have cl := hR.vb.cell 5 rfl
    clear hfo hct hby hrs hO hR hfr hC
    cases q0 with
    | none =>
      change wr.cell? ⟨m, 1, none⟩ = some (.bool false) at cz
      clear cl
      go_wp2_with fail
      go_ret2
      obtain ⟨a1, a2, a3, a4⟩ := HK.out
      have e1 : gs = fol4 g0 g1 g2 g3 := by simpa [fol4] using a1
      refine ⟨f, g0, g1, g2, g3, A1, n1, c1, gs, HGS.out, HFL.out, rfl, HOK.out, e1, HFK.out, ?_, HCK.out⟩
      rw [← a4, ← a3]
      exact HRK.out
    | some a =>
      change wr.cell? ⟨m, 1, none⟩ = some (.bool true) at cz
      change wr.cell? ⟨m, 5, none⟩ = some (.slice a.A a.n a.c) at cl
      have hb5 := below_alloc wr (.cells #[.slice a.A a.n a.c] 27)
      have hn1 : n1 ≤ 3 := by have := HK.out.2.1; simp [cnt4, is1] at this; omega
      obtain ⟨A', c', w5, hrun, hO5, hC5, hat⟩ := run_appendF 35 (HOK.out.below hb5) (rr_lit wr [a] (B := (wr.alloc (.cells #[.slice a.A a.n a.c] 27)).heap.size) (by simp) (by simp)) (by simp; omega) (Nat.le_trans HCK.out.size hb5.size)
      have hrun : (Builtin.append_ #[35, 35] 35 #[.slice A1 n1 c1, .slice (some ⟨wr.heap.size, 0, none⟩) 1 1]).run Try.prog (wr.alloc (.cells #[.slice a.A a.n a.c] 27)) = .ok (.slice A' (n1 + 1) c') w5 := hrun
      have hO5 : Orw w5 w.heap.size (.slice A' (n1 + 1) c') (n1 + 1) (gs ++ [a]) := hO5
      have hml : m < w.heap.size := H.out.vb.lt
      have hge : ∀ k, (Value.slice A1 n1 c1).ownBlock = some k → w.heap.size ≤ k := fun k hk => (HOK.out.lt k hk).1
      have hnb := row_nocell (HOK.out.below hb5)
      have hR5 := (HRK.out.below hb5).stay hC5 (fun e => by have := hge m e; omega) (fun b cs k _ _ hb e => hnb b cs k e hb)
      have hF5 : ∀ k ∈ gs ++ [a], Fb (fun b => P b ∨ w.heap.size ≤ b) w5 k := fun k hk => by
        refine Fb.other (Fb.below ?_ hb5) hC5 (fun b cs mk e hb => hnb b cs mk e hb)
        rcases List.mem_append.1 hk with h | h
        · exact HFK.out k h
        · rw [List.mem_singleton.1 h]; exact HRK.out.f0 a rfl
      have hC6 := (HCK.out.trans (Ch.of_below (S := fun k => k = m) hb5) (fun _ _ e => e)).trans hC5 (fun k hk e => absurd (hge k e) (by omega))
      have HO5 := Kp.mk hO5
      have HF5 := Kp.mk hF5
      have HC6 := Kp.mk hC6
      have hon := mon_any hR5
      have HNB := Kp.mk hR5.nob
      clear hO5 hC5 hat hb5 hge hnb hF5 hC6 hR5
      go_wp2_with (at_builtin; refine Lib.wpList_append_run _ rfl _ _ _ _ rfl _ _ rfl rfl _ _ hrun ?_)
      refine hon.mono ?_
      rintro e w6 ⟨rfl, hR6, hC7⟩
      have HR6 := Kp.mk hR6
      have HC7 := Kp.mk hC7
      clear hon hR6 hC7 hrun
      go_wp2_with fail
      go_roundw
      case rel =>
        obtain ⟨a1, a2, a3, a4⟩ := HK.out
        rw [fol4_step] at a1
        rw [rst4_step] at a4
        refine ⟨A', n1 + 1, c', gs ++ [a], q1, q2, q3, none, _, rfl, HO5.out.stay HC7.out (fun k hk e => by have := (HO5.out.lt k hk).1; omega), HR6.out, ?_, ?_, ?_, a4, fun k hk => (HF5.out k hk).other HC7.out (fun b cs mk e hb => HNB.out b cs mk e hb), HC6.out.trans HC7.out (fun _ _ e => e)⟩
        · rw [List.append_assoc]; exact a1
        · simp [cnt4, is1] at a2 ⊢; omega
        · rw [a3, plusP_plusP]; congr 1
      case measure => show 5 - (n1 + 1) < 5 - n1; omega
end
end Go.Proofs.Ytdhidgcjpeafnaa.Oct
