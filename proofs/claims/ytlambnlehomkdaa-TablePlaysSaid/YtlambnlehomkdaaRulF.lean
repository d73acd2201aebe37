/- Contracts of layer 8: SameSent, Same, works. -/
import Derived.Test.YtlambnlehomkdaaRulE
namespace Go.Proofs.Ytlambnlehomkdaa.Oct
open Go.RowKit
set_option linter.unusedVariables false
set_option linter.unusedSimpArgs false

set_option maxRecDepth 100000 in
set_option maxHeartbeats 1600000 in
theorem list_ext' {os os2 : List OutV} (hl : os.length = os2.length) (h : ∀ j, j < os.length → os[j]? = os2[j]?) : os = os2 := by
  apply List.ext_getElem?
  intro i
  by_cases hi : i < os.length
  · exact h i hi
  · rw [List.getElem?_eq_none (by omega), List.getElem?_eq_none (by omega)]
theorem equalO_any {w : World} {B B2 : Nat} {A A2 : Option Addr} {n c n2 c2 : Nat} {os os2 : List OutV} (h : Ro w B A n c os) (h2 : Ro w B2 A2 n2 c2 os2) : Calls Try.prog 85 #[.slice A n c, .slice A2 n2 c2] w fun e w' => e = .returned (.bool (decide (os = os2))) ∧ Below w.heap.size w w' := by
  have hl := h.len
  have hl2 := h2.len
  have hmx := h.max
  have HA := Kp.mk h
  have HB := Kp.mk h2
  have hb0 := Below.refl w.heap.size w
  clear h h2
  by_cases hq : n2 = n
  rotate_left
  · have hp := Kp.mk (show decide (os = os2) = false from decide_eq_false (fun e => hq (by rw [← hl, ← hl2, e])))
    have nn : ((n : Int) != (n2 : Int)) = true := by simp; omega
    go_enter Try.func85, Try.ntmps85
    go_wp2_with fail
    rw [hp.out]
    go_ret
    exact ⟨rfl, hb0⟩
  subst hq
  have nn : ((n2 : Int) != (n2 : Int)) = false := by simp
  have HL := Kp.mk (And.intro hl hl2)
  clear hl hl2
  go_enter Try.func85, Try.ntmps85
  go_wp2_with fail
  go_loopw [13] (fun i wr => ∃ (k q : Nat), k ≤ n2 ∧ i = .int .i64 k ∧ Kp (∀ j, j < k → os[j]? = os2[j]?) ∧ wr = w.drewN q) (fun i _ => n2 - (intOf i).toNat)
  case atStart => exact ⟨0, 0, by omega, rfl, Kp.mk (fun j hj => absurd hj (by omega)), rfl⟩
  case round =>
    obtain ⟨k, q, hk, rfl, HK, rfl⟩ := hrel
    have hb1 := below_drewN hb0 q
    by_cases hltn : k < n2
    rotate_left
    · obtain rfl : k = n2 := by omega
      have hp := Kp.mk (show decide (os = os2) = true from decide_eq_true (list_ext' (by have := HL.out; omega) (fun j hj => HK.out j (by have := HL.out; omega))))
      go_wp2_with fail
      rw [hp.out]
      go_ret
      exact ⟨rfl, hb1⟩
    obtain ⟨b, off, eA, hbB, hc⟩ := HA.out.at_ (by omega)
    obtain ⟨b2, off2, eS, hbB2, hc2⟩ := HB.out.at_ (by omega)
    obtain ⟨x, hx⟩ : ∃ x, os[k]? = some x := ⟨_, List.getElem?_eq_getElem (by have := HL.out; omega)⟩
    obtain ⟨y, hy⟩ : ∃ y, os2[k]? = some y := ⟨_, List.getElem?_eq_getElem (by have := HL.out; omega)⟩
    obtain ⟨d0, d1, d2, d3⟩ := hc k x hx
    obtain ⟨f0, f1, f2, f3⟩ := hc2 k y hy
    subst eA eS
    have j1 : (k : Int) < n2 := by omega
    have eO : ∀ w, (Op.equalIn 10000 49 (.agg #[.int .i64 x.p, .int .i64 x.a, .int .i64 x.b, .int .i64 x.c]) (.agg #[.int .i64 y.p, .int .i64 y.a, .int .i64 y.b, .int .i64 y.c])).run Try.prog w = .ok (eqOB x y) w := fun w => eq_out x y w
    have Hx := Kp.mk hx
    have Hy := Kp.mk hy
    clear hc hc2 hx hy
    by_cases c6 : eqOB x y = true
    rotate_left
    · have c6' : eqOB x y = false := by simpa using c6
      have hp := Kp.mk (show decide (os = os2) = false from decide_eq_false (fun hh => c6 ((eqOB_iff x y).2 (by have h1 := Hx.out; have h2 := Hy.out; rw [hh, h2] at h1; exact (Option.some.inj h1).symm))))
      clear c6
      go_wp2_with fail
      go_quiet (fail)
      go_wp2_with fail
      rw [hp.out]
      go_ret
      exact ⟨rfl, by repeat first | exact hb1 | refine below_drewN ?_ _⟩
    · have HN : Kp (∀ j, j < k + 1 → os[j]? = os2[j]?) := Kp.mk (fun j hj => by
          by_cases hjk : j < k
          · exact HK.out j hjk
          · obtain rfl : j = k := by omega
            rw [Hx.out, Hy.out, (eqOB_iff x y).1 c6])
      go_wp2_with fail
      go_quiet (fail)
      go_wp2_with fail
      go_roundw
      case rel => exact ⟨k + 1, q + nq, by omega, by go_num, HN, by first | rfl | rw [World.drewN_drewN]⟩
      case measure => simp [intOf]; omega
set_option maxRecDepth 100000 in
set_option maxHeartbeats 4000000 in
theorem same_any {w : World} {B B2 : Nat} {A A2 : Option Addr} {n c n2 c2 : Nat} {os os2 : List OutV} (r : RuleV) (h : Ro w B A n c os) (hB : B ≤ w.heap.size) (h2 : Ro w B2 A2 n2 c2 os2) (hB2 : B2 ≤ w.heap.size) : Calls Try.prog 32 #[.agg #[.int .i64 r.k, .int .i64 r.pr, .int .i64 r.to, .int .i64 r.po, .int .i64 r.x.v, .int .i64 r.x.m, .int .u8 r.x.b0, .int .u8 r.x.b1, .int .u8 r.x.b2, .int .u8 r.x.i0, .int .u8 r.x.i1, .int .u8 r.x.i2, .slice A n c], .agg #[.int .i64 r.k, .int .i64 r.pr, .int .i64 r.to, .int .i64 r.po, .int .i64 r.x.v, .int .i64 r.x.m, .int .u8 r.x.b0, .int .u8 r.x.b1, .int .u8 r.x.b2, .int .u8 r.x.i0, .int .u8 r.x.i1, .int .u8 r.x.i2, .slice A2 n2 c2]] w fun e w' => e = .returned (.bool (decide (os = os2))) ∧ Below w.heap.size w w' := by
  have hx : Vb 36 ((w.alloc (.cells #[.int .i64 r.k, .int .i64 r.pr, .int .i64 r.to, .int .i64 r.po, .int .i64 r.x.v, .int .i64 r.x.m, .int .u8 r.x.b0, .int .u8 r.x.b1, .int .u8 r.x.b2, .int .u8 r.x.i0, .int .u8 r.x.i1, .int .u8 r.x.i2, .slice A n c] 36)).alloc (.cells #[.int .i64 r.k, .int .i64 r.pr, .int .i64 r.to, .int .i64 r.po, .int .i64 r.x.v, .int .i64 r.x.m, .int .u8 r.x.b0, .int .u8 r.x.b1, .int .u8 r.x.b2, .int .u8 r.x.i0, .int .u8 r.x.i1, .int .u8 r.x.i2, .slice A2 n2 c2] 36)) w.heap.size [.int .i64 r.k, .int .i64 r.pr, .int .i64 r.to, .int .i64 r.po, .int .i64 r.x.v, .int .i64 r.x.m, .int .u8 r.x.b0, .int .u8 r.x.b1, .int .u8 r.x.b2, .int .u8 r.x.i0, .int .u8 r.x.i1, .int .u8 r.x.i2, .slice A n c] := (Vb.new 36 w [.int .i64 r.k, .int .i64 r.pr, .int .i64 r.to, .int .i64 r.po, .int .i64 r.x.v, .int .i64 r.x.m, .int .u8 r.x.b0, .int .u8 r.x.b1, .int .u8 r.x.b2, .int .u8 r.x.i0, .int .u8 r.x.i1, .int .u8 r.x.i2, .slice A n c]).alloc _
  have hy : Vb 36 ((w.alloc (.cells #[.int .i64 r.k, .int .i64 r.pr, .int .i64 r.to, .int .i64 r.po, .int .i64 r.x.v, .int .i64 r.x.m, .int .u8 r.x.b0, .int .u8 r.x.b1, .int .u8 r.x.b2, .int .u8 r.x.i0, .int .u8 r.x.i1, .int .u8 r.x.i2, .slice A n c] 36)).alloc (.cells #[.int .i64 r.k, .int .i64 r.pr, .int .i64 r.to, .int .i64 r.po, .int .i64 r.x.v, .int .i64 r.x.m, .int .u8 r.x.b0, .int .u8 r.x.b1, .int .u8 r.x.b2, .int .u8 r.x.i0, .int .u8 r.x.i1, .int .u8 r.x.i2, .slice A2 n2 c2] 36)) (w.heap.size + 1) [.int .i64 r.k, .int .i64 r.pr, .int .i64 r.to, .int .i64 r.po, .int .i64 r.x.v, .int .i64 r.x.m, .int .u8 r.x.b0, .int .u8 r.x.b1, .int .u8 r.x.b2, .int .u8 r.x.i0, .int .u8 r.x.i1, .int .u8 r.x.i2, .slice A2 n2 c2] := by have := Vb.new 36 (w.alloc (.cells #[.int .i64 r.k, .int .i64 r.pr, .int .i64 r.to, .int .i64 r.po, .int .i64 r.x.v, .int .i64 r.x.m, .int .u8 r.x.b0, .int .u8 r.x.b1, .int .u8 r.x.b2, .int .u8 r.x.i0, .int .u8 r.x.i1, .int .u8 r.x.i2, .slice A n c] 36)) [.int .i64 r.k, .int .i64 r.pr, .int .i64 r.to, .int .i64 r.po, .int .i64 r.x.v, .int .i64 r.x.m, .int .u8 r.x.b0, .int .u8 r.x.b1, .int .u8 r.x.b2, .int .u8 r.x.i0, .int .u8 r.x.i1, .int .u8 r.x.i2, .slice A2 n2 c2]; simpa using this
  have hb0 := below_two w (.cells #[.int .i64 r.k, .int .i64 r.pr, .int .i64 r.to, .int .i64 r.po, .int .i64 r.x.v, .int .i64 r.x.m, .int .u8 r.x.b0, .int .u8 r.x.b1, .int .u8 r.x.b2, .int .u8 r.x.i0, .int .u8 r.x.i1, .int .u8 r.x.i2, .slice A n c] 36) (.cells #[.int .i64 r.k, .int .i64 r.pr, .int .i64 r.to, .int .i64 r.po, .int .i64 r.x.v, .int .i64 r.x.m, .int .u8 r.x.b0, .int .u8 r.x.b1, .int .u8 r.x.b2, .int .u8 r.x.i0, .int .u8 r.x.i1, .int .u8 r.x.i2, .slice A2 n2 c2] 36)
  have eM : ∀ w, (Op.equalIn 10000 33 (.agg #[.int .i64 r.x.v, .int .i64 r.x.m, .int .u8 r.x.b0, .int .u8 r.x.b1, .int .u8 r.x.b2, .int .u8 r.x.i0, .int .u8 r.x.i1, .int .u8 r.x.i2]) (.agg #[.int .i64 r.x.v, .int .i64 r.x.m, .int .u8 r.x.b0, .int .u8 r.x.b1, .int .u8 r.x.b2, .int .u8 r.x.i0, .int .u8 r.x.i1, .int .u8 r.x.i2])).run Try.prog w = .ok true w := fun w => (eq_mask r.x r.x w).trans (by rw [(eqMB_iff r.x r.x).2 rfl])
  have ha := h.below' hb0 hB
  have hb := h2.below' hb0 hB2
  go_enter Try.func32, Try.ntmps32
  go_upto_region 1 with fail
  generalize (w.alloc (.cells #[.int .i64 r.k, .int .i64 r.pr, .int .i64 r.to, .int .i64 r.po, .int .i64 r.x.v, .int .i64 r.x.m, .int .u8 r.x.b0, .int .u8 r.x.b1, .int .u8 r.x.b2, .int .u8 r.x.i0, .int .u8 r.x.i1, .int .u8 r.x.i2, .slice A n c] 36)).alloc (.cells #[.int .i64 r.k, .int .i64 r.pr, .int .i64 r.to, .int .i64 r.po, .int .i64 r.x.v, .int .i64 r.x.m, .int .u8 r.x.b0, .int .u8 r.x.b1, .int .u8 r.x.b2, .int .u8 r.x.i0, .int .u8 r.x.i1, .int .u8 r.x.i2, .slice A2 n2 c2] 36) = w0 at *
  obtain ⟨d0, d1, d2, d3, d4, d5, d6, d7, d8, d9, d10, d11, d12⟩ := hx.c13
  obtain ⟨e0, e1, e2, e3, e4, e5, e6, e7, e8, e9, e10, e11, e12⟩ := hy.c13
  go_wp2_with fail
  refine (equalO_any ha hb).mono ?_
  rintro e w1 ⟨rfl, hb1⟩
  go_wp2_with fail
  go_ret
  exact ⟨rfl, hb0.trans (hb1.mono hb0.size)⟩
end Go.Proofs.Ytlambnlehomkdaa.Oct
