/- The walk of ProbeOnce. -/
import Derived.Test.YtikmgemfbdpfiaaPrbJ
import Derived.Test.YtikmgemfbdpfiaaPrbI
import Derived.Test.YtikmgemfbdpfiaaPrbX
namespace Go.Proofs.Ytikmgemfbdpfiaa.Oct
open Go.RowKit
set_option linter.unusedVariables false

theorem end_bring (to po : Int) : endP (1 + Ser.bringP to 6) (1 + Ser.bringP po 4) = true := by
  have h1 := Ser.bringP_bd to 6 (by omega)
  have h2 := Ser.bringP_bd po 4 (by omega)
  exact decide_eq_true (by omega)
theorem found_new {f p q n to po : Int} (ok : okQ f p 0 q n) (he : endP to po = true) : okQ f p to po n ∧ to ≠ 0 := by
  have := of_decide_eq_true he
  unfold okQ at ok ⊢
  omega

set_option maxRecDepth 100000 in
set_option maxHeartbeats 4000000 in
theorem probeOnce_any (f p t q n to po : Int) (w : World) :
    Calls Try.prog 8 #[.agg #[.int .i64 f, .int .i64 p, .int .i64 t, .int .i64 q, .int .i64 n], .int .i64 to, .int .i64 po] w fun e w' => e = .returned (.bool true) ∧ Below w.heap.size w w' := by
  have b1 := Ser.bringP_bd to 6 (by omega)
  have b2 := Ser.bringP_bd po 4 (by omega)
  have He := Kp.mk (end_bring to po)
  have Hok := Kp.mk (mdQ_ok f p t q n)
  go_enter Try.func8, Try.ntmps8
  go_wp2_with fail
  have hb0 := below_alloc w (.cells #[.int .i64 f, .int .i64 p, .int .i64 t, .int .i64 q, .int .i64 n] 23)
  have hx0 : Nb 23 (w.alloc (.cells #[.int .i64 f, .int .i64 p, .int .i64 t, .int .i64 q, .int .i64 n] 23)) w.heap.size [f, p, t, q, n] := Nb.new 23 w [f, p, t, q, n]
  generalize (w.alloc (.cells #[.int .i64 f, .int .i64 p, .int .i64 t, .int .i64 q, .int .i64 n] 23)) = w0 at *
  refine (made_any f p t q n w0).mono ?_
  rintro e w1 ⟨rfl, hb1⟩
  have hx1 := hx0.below hb1 hx0.lt
  have hT1 := hb0.trans (hb1.mono hb0.size)
  generalize mdF f = F at *
  generalize mdP p = P at *
  generalize mdT t = T at *
  generalize mdQ t q = Q at *
  generalize mdN n = N at *
  have hx2 := hx1.put5 (f' := F) (p' := P) (t' := T) (q' := Q) (n' := N)
  have hT2 := put5_below hT1 (Nat.le_refl _) F P T Q N
  have hf := hx1.free
  obtain ⟨d0, d1, d2, d3, d4⟩ := hx1.five
  change Nb _ (((((w1.setCell ⟨w.heap.size, 0, none⟩ (.int .i64 F)).setCell ⟨w.heap.size, 1, none⟩ (.int .i64 P)).setCell ⟨w.heap.size, 2, none⟩ (.int .i64 T)).setCell ⟨w.heap.size, 3, none⟩ (.int .i64 Q)).setCell ⟨w.heap.size, 4, none⟩ (.int .i64 N)) _ _ at hx2
  change Below _ _ (((((w1.setCell ⟨w.heap.size, 0, none⟩ (.int .i64 F)).setCell ⟨w.heap.size, 1, none⟩ (.int .i64 P)).setCell ⟨w.heap.size, 2, none⟩ (.int .i64 T)).setCell ⟨w.heap.size, 3, none⟩ (.int .i64 Q)).setCell ⟨w.heap.size, 4, none⟩ (.int .i64 N)) at hT2
  go_wp2_with fail
  generalize (((((w1.setCell ⟨w.heap.size, 0, none⟩ (.int .i64 F)).setCell ⟨w.heap.size, 1, none⟩ (.int .i64 P)).setCell ⟨w.heap.size, 2, none⟩ (.int .i64 T)).setCell ⟨w.heap.size, 3, none⟩ (.int .i64 Q)).setCell ⟨w.heap.size, 4, none⟩ (.int .i64 N)) = w2 at *
  clear d0 d1 d2 d3 d4 hf
  refine (Ser.bring_any to 6 _ (by omega) (by omega)).mono ?_
  rintro e w' ⟨rfl, rfl⟩
  go_wp2_with fail
  refine (Ser.bring_any po 4 _ (by omega) (by omega)).mono ?_
  rintro e w' ⟨rfl, rfl⟩
  obtain ⟨d0, d1, d2, d3, d4⟩ := hx2.five
  go_wp2_with fail
  generalize Ser.bringP to 6 = u1 at *
  generalize Ser.bringP po 4 = u2 at *
  generalize 1 + u1 = t1 at *
  generalize 1 + u2 = t2 at *
  clear b1 b2
  have hlx := hx2.lt
  refine (found_any F P T Q N t1 t2 w2).mono ?_
  by_cases hz : T = 0
  · subst hz
    rw [foundQ_yes t1 t2 Hok.out He.out]
    obtain ⟨ok2, hne⟩ := found_new Hok.out He.out
    have Ha := Kp.mk (foundQ_state t1 t2 ok2 hne)
    have Hc := Kp.mk (show checkQ F P t1 t2 N = 0 from if_pos ok2)
    clear ok2 hne Hok He
    rintro e w3 ⟨rfl, hb3⟩
    have hx4 := (hx2.below hb3 hlx).alloc (.cells #[.int .i64 F, .int .i64 P, .int .i64 t1, .int .i64 t2, .int .i64 N] 23)
    have hT4 := (hT2.trans (hb3.mono hT2.size)).alloc (hT2.trans (hb3.mono hT2.size)).size (.cells #[.int .i64 F, .int .i64 P, .int .i64 t1, .int .i64 t2, .int .i64 N] 23)
    have bx4 : Nb 23 (w3.alloc (.cells #[.int .i64 F, .int .i64 P, .int .i64 t1, .int .i64 t2, .int .i64 N] 23)) w3.heap.size [F, P, t1, t2, N] := Nb.new 23 w3 [F, P, t1, t2, N]
    clear d0 d1 d2 d3 d4 hx2 hT2 hb3 hx1 hT1 hb0 hb1
    obtain ⟨d0, d1, d2, d3, d4⟩ := hx4.five
    obtain ⟨a0, a1, a2, a3, a4⟩ := bx4.five
    go_wp2_with fail
    generalize (w3.alloc (.cells #[.int .i64 F, .int .i64 P, .int .i64 t1, .int .i64 t2, .int .i64 N] 23)) = w4 at *
    generalize w3.heap.size = b3 at *
    refine (found_any F P t1 t2 N t1 t2 w4).mono ?_
    rw [Ha.out]
    rintro e w5 ⟨rfl, hb5⟩
    have hx6 := (hx4.below hb5 hx4.lt).alloc (.cells #[.int .i64 0, .int .i64 0, .int .i64 0, .int .i64 0, .int .i64 0] 23)
    have bx6 := (bx4.below hb5 bx4.lt).alloc (.cells #[.int .i64 0, .int .i64 0, .int .i64 0, .int .i64 0, .int .i64 0] 23)
    have hT6 := (hT4.trans (hb5.mono hT4.size)).alloc (hT4.trans (hb5.mono hT4.size)).size (.cells #[.int .i64 0, .int .i64 0, .int .i64 0, .int .i64 0, .int .i64 0] 23)
    clear d0 d1 d2 d3 d4 a0 a1 a2 a3 a4 hx4 bx4 hT4 hb5
    obtain ⟨d0, d1, d2, d3, d4⟩ := hx6.five
    obtain ⟨a0, a1, a2, a3, a4⟩ := bx6.five
    go_wp2_with fail
    generalize (w5.alloc (.cells #[.int .i64 0, .int .i64 0, .int .i64 0, .int .i64 0, .int .i64 0] 23)) = w6 at *
    refine (check_any F P t1 t2 N w6).mono ?_
    rw [Hc.out]
    rintro e w7 ⟨rfl, hb7⟩
    have hT7 := hT6.trans (hb7.mono hT6.size)
    clear d0 d1 d2 d3 d4 a0 a1 a2 a3 a4 hx6 bx6 hT6 hb7
    go_wp2_with fail
    refine (worksQ_any w7).mono ?_
    rintro e w9 ⟨rfl, hb9⟩
    go_wp2_with fail
    go_ret
    exact ⟨rfl, hT7.trans (hb9.mono hT7.size)⟩
  · rw [foundQ_state t1 t2 Hok.out hz]
    have e1 : (T != 0) = true := bne_iff_ne.2 hz
    clear hz Hok He
    rintro e w3 ⟨rfl, hb3⟩
    have hx4 := (hx2.below hb3 hlx).alloc (.cells #[.int .i64 0, .int .i64 0, .int .i64 0, .int .i64 0, .int .i64 0] 23)
    have hT4 := (hT2.trans (hb3.mono hT2.size)).alloc (hT2.trans (hb3.mono hT2.size)).size (.cells #[.int .i64 0, .int .i64 0, .int .i64 0, .int .i64 0, .int .i64 0] 23)
    have bx4 : Nb 23 (w3.alloc (.cells #[.int .i64 0, .int .i64 0, .int .i64 0, .int .i64 0, .int .i64 0] 23)) w3.heap.size [0, 0, 0, 0, 0] := Nb.new 23 w3 [0, 0, 0, 0, 0]
    clear d0 d1 d2 d3 d4 hx2 hT2 hb3 hx1 hT1 hb0 hb1
    obtain ⟨d0, d1, d2, d3, d4⟩ := hx4.five
    obtain ⟨a0, a1, a2, a3, a4⟩ := bx4.five
    go_wp2_with fail
    generalize (w3.alloc (.cells #[.int .i64 0, .int .i64 0, .int .i64 0, .int .i64 0, .int .i64 0] 23)) = w4 at *
    refine (worksQ_any w4).mono ?_
    rintro e w9 ⟨rfl, hb9⟩
    go_wp2_with fail
    go_ret
    exact ⟨rfl, hT4.trans (hb9.mono hT4.size)⟩

theorem ProbeOnce_walk (zs : List Int) (to po : Int) (w : World) (lz : zs.length = 5) (hw : ∀ p ∈ [IntKind.i64, .i64, .i64, .i64, .i64].zip zs, (Lit.int p.1 p.2).wf = true) (_ : (Lit.int .i64 to).wf = true) (_ : (Lit.int .i64 po).wf = true) :
    Calls Try.prog 8 #[.agg (List.zipWith Value.int [IntKind.i64, .i64, .i64, .i64, .i64] zs).toArray, .int .i64 to, .int .i64 po] w fun e w' => e = .returned (.bool true) ∧ Below w.heap.size w w' := by
  obtain ⟨f, p, t, q, n, rfl, _⟩ := five_of zs lz hw
  exact probeOnce_any f p t q n to po w
end Go.Proofs.Ytikmgemfbdpfiaa.Oct
