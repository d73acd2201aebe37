/- Contracts of layer 6: whether two rules, two orders are the same. -/
import Derived.Test.YteambkehdbffmaaGreatOrdH
import Derived.Test.YteambkehdbffmaaGreatOrdR
import Derived.BigQuiet
namespace Go.Proofs.YteambkehdbffmaaGreat.Oct
open Go.RowKit
set_option linter.unusedVariables false
set_option linter.unusedSimpArgs false

theorem RuleV.ext_iff' (r s : RuleV) : r = s ↔ (r.k = s.k ∧ r.pr = s.pr ∧ r.to = s.to ∧ r.po = s.po ∧ r.x = s.x ∧ r.os = s.os) := by
  obtain ⟨a1, a2, a3, a4, a5, a6⟩ := r
  obtain ⟨b1, b2, b3, b4, b5, b6⟩ := s
  simp
theorem list_ext {os ps : List OutV} (hl : os.length = ps.length) (h : ∀ k, k < os.length → os[k]? = ps[k]?) : os = ps := by
  apply List.ext_getElem?
  intro i
  by_cases hi : i < os.length
  · exact h i hi
  · rw [List.getElem?_eq_none (by omega), List.getElem?_eq_none (by omega)]
def eqOs : List OutV → List OutV → Bool
  | [], [] => true
  | x :: xs, y :: ys => eqOB x y && eqOs xs ys
  | _, _ => false
theorem eqOs_iff : ∀ xs ys : List OutV, eqOs xs ys = true ↔ xs = ys
  | [], [] => by simp [eqOs]
  | x :: xs, y :: ys => by simp only [eqOs, Bool.and_eq_true, eqOB_iff, eqOs_iff xs ys, List.cons.injEq]
  | [], _ :: _ => by simp [eqOs]
  | _ :: _, [] => by simp [eqOs]
/-- Whether two rules, two orders are the same. -/
def sameR (r s : RuleV) : Bool := (r.k == s.k) && ((r.pr == s.pr) && ((r.to == s.to) && ((r.po == s.po) && (eqMB r.x s.x && eqOs r.os s.os))))
def sameO (a b : OrdV) : Bool := (a.k == b.k) && ((a.n == b.n) && ((a.m == b.m) && (eqQB a.f a.p a.t a.q a.z b.f b.p b.t b.q b.z && sameR a.r b.r)))
theorem sameR_iff (r s : RuleV) : sameR r s = true ↔ r = s := by
  rw [RuleV.ext_iff']
  unfold sameR
  simp only [Bool.and_eq_true, beq_iff_eq, eqMB_iff, eqOs_iff]
theorem sameO_iff (a b : OrdV) : sameO a b = true ↔ a = b := by
  obtain ⟨a1, a2, a3, a4, a5, a6, a7, a8, a9⟩ := a
  obtain ⟨b1, b2, b3, b4, b5, b6, b7, b8, b9⟩ := b
  unfold sameO
  simp only [Bool.and_eq_true, beq_iff_eq, eqQB_iff, sameR_iff, OrdV.mk.injEq]
  constructor
  · rintro ⟨h1, h2, h3, ⟨h5, h6, h7, h8, h9⟩, h4⟩; exact ⟨h1, h2, h3, h4, h5, h6, h7, h8, h9⟩
  · rintro ⟨h1, h2, h3, h4, h5, h6, h7, h8, h9⟩; exact ⟨h1, h2, h3, ⟨h5, h6, h7, h8, h9⟩, h4⟩
theorem sameR_yes {r s : RuleV} (h : r = s) : sameR r s = true := (sameR_iff r s).2 h
theorem sameR_no {r s : RuleV} (h : ¬ r = s) : sameR r s = false := by
  cases hs : sameR r s with
  | false => rfl
  | true => exact absurd ((sameR_iff r s).1 hs) h

set_option maxRecDepth 100000 in
set_option maxHeartbeats 3200000 in
theorem refSameRule_any {w : World} {B B2 n c m d : Nat} {A S : Option Addr} {r s : RuleV} (h : Ro w B A n c r.os) (hB : B ≤ w.heap.size) (h2 : Ro w B2 S m d s.os) (hB2 : B2 ≤ w.heap.size) : Calls Tryz.prog 40 #[.agg #[.int .i64 r.k, .int .i64 r.pr, .int .i64 r.to, .int .i64 r.po, .int .i64 r.x.v, .int .i64 r.x.m, .int .u8 r.x.b0, .int .u8 r.x.b1, .int .u8 r.x.b2, .int .u8 r.x.i0, .int .u8 r.x.i1, .int .u8 r.x.i2, .slice A n c], .agg #[.int .i64 s.k, .int .i64 s.pr, .int .i64 s.to, .int .i64 s.po, .int .i64 s.x.v, .int .i64 s.x.m, .int .u8 s.x.b0, .int .u8 s.x.b1, .int .u8 s.x.b2, .int .u8 s.x.i0, .int .u8 s.x.i1, .int .u8 s.x.i2, .slice S m d]] w fun e w' => e = .returned (.bool (sameR r s)) ∧ Below w.heap.size w w' := by
  have hl := h.len
  have hl2 := h2.len
  have hmx := h.max
  have E := Kp.mk (RuleV.ext_iff' r s)
  have eM : ∀ w, (Op.equalIn 10000 26 (.agg #[.int .i64 r.x.v, .int .i64 r.x.m, .int .u8 r.x.b0, .int .u8 r.x.b1, .int .u8 r.x.b2, .int .u8 r.x.i0, .int .u8 r.x.i1, .int .u8 r.x.i2]) (.agg #[.int .i64 s.x.v, .int .i64 s.x.m, .int .u8 s.x.b0, .int .u8 s.x.b1, .int .u8 s.x.b2, .int .u8 s.x.i0, .int .u8 s.x.i1, .int .u8 s.x.i2])).run Tryz.prog w = .ok (eqMB r.x s.x) w := fun w => eq_mask r.x s.x w
  have hb0 := below_two w (.cells #[.int .i64 r.k, .int .i64 r.pr, .int .i64 r.to, .int .i64 r.po, .int .i64 r.x.v, .int .i64 r.x.m, .int .u8 r.x.b0, .int .u8 r.x.b1, .int .u8 r.x.b2, .int .u8 r.x.i0, .int .u8 r.x.i1, .int .u8 r.x.i2, .slice A n c] 29) (.cells #[.int .i64 s.k, .int .i64 s.pr, .int .i64 s.to, .int .i64 s.po, .int .i64 s.x.v, .int .i64 s.x.m, .int .u8 s.x.b0, .int .u8 s.x.b1, .int .u8 s.x.b2, .int .u8 s.x.i0, .int .u8 s.x.i1, .int .u8 s.x.i2, .slice S m d] 29)
  by_cases c0 : (r.k == s.k) = true
  rotate_left
  · have c0' : (r.k == s.k) = false := by simpa using c0
    have hp := Kp.mk (sameR_no (r := r) (s := s) (fun hh => c0 (by rw [hh]; exact beq_self_eq_true _)))
    have n0 : (r.k != s.k) = true := by rw [bne, c0']; rfl
    clear c0 hl hl2
    go_enter Tryz.func40, Tryz.ntmps40
    go_wp2_with fail
    rw [hp.out]
    go_ret
    exact ⟨rfl, hb0⟩
  by_cases c1 : (r.pr == s.pr) = true
  rotate_left
  · have c1' : (r.pr == s.pr) = false := by simpa using c1
    have hp := Kp.mk (sameR_no (r := r) (s := s) (fun hh => c1 (by rw [hh]; exact beq_self_eq_true _)))
    have n0 : (r.k != s.k) = false := by rw [bne, c0]; rfl
    have n1 : (r.pr != s.pr) = true := by rw [bne, c1']; rfl
    clear c1 hl hl2
    go_enter Tryz.func40, Tryz.ntmps40
    go_wp2_with fail
    rw [hp.out]
    go_ret
    exact ⟨rfl, hb0⟩
  by_cases c2 : (r.to == s.to) = true
  rotate_left
  · have c2' : (r.to == s.to) = false := by simpa using c2
    have hp := Kp.mk (sameR_no (r := r) (s := s) (fun hh => c2 (by rw [hh]; exact beq_self_eq_true _)))
    have n0 : (r.k != s.k) = false := by rw [bne, c0]; rfl
    have n1 : (r.pr != s.pr) = false := by rw [bne, c1]; rfl
    have n2 : (r.to != s.to) = true := by rw [bne, c2']; rfl
    clear c2 hl hl2
    go_enter Tryz.func40, Tryz.ntmps40
    go_wp2_with fail
    rw [hp.out]
    go_ret
    exact ⟨rfl, hb0⟩
  by_cases c3 : (r.po == s.po) = true
  rotate_left
  · have c3' : (r.po == s.po) = false := by simpa using c3
    have hp := Kp.mk (sameR_no (r := r) (s := s) (fun hh => c3 (by rw [hh]; exact beq_self_eq_true _)))
    have n0 : (r.k != s.k) = false := by rw [bne, c0]; rfl
    have n1 : (r.pr != s.pr) = false := by rw [bne, c1]; rfl
    have n2 : (r.to != s.to) = false := by rw [bne, c2]; rfl
    have n3 : (r.po != s.po) = true := by rw [bne, c3']; rfl
    clear c3 hl hl2
    go_enter Tryz.func40, Tryz.ntmps40
    go_wp2_with fail
    rw [hp.out]
    go_ret
    exact ⟨rfl, hb0⟩
  by_cases c4 : (eqMB r.x s.x) = true
  rotate_left
  · have c4' : (eqMB r.x s.x) = false := by simpa using c4
    have hp := Kp.mk (sameR_no (r := r) (s := s) (fun hh => c4 ((eqMB_iff r.x s.x).2 (by rw [hh]))))
    have n0 : (r.k != s.k) = false := by rw [bne, c0]; rfl
    have n1 : (r.pr != s.pr) = false := by rw [bne, c1]; rfl
    have n2 : (r.to != s.to) = false := by rw [bne, c2]; rfl
    have n3 : (r.po != s.po) = false := by rw [bne, c3]; rfl
    clear c4 hl hl2
    go_enter Tryz.func40, Tryz.ntmps40
    go_wp2_with fail
    rw [hp.out]
    go_ret
    exact ⟨rfl, hb0⟩
  by_cases c5 : ((n : Int) == (m : Int)) = true
  rotate_left
  · have c5' : ((n : Int) == (m : Int)) = false := by simpa using c5
    have hp := Kp.mk (sameR_no (r := r) (s := s) (fun hh => c5 (by have h9 : r.os.length = s.os.length := (by rw [hh]); rw [beq_iff_eq]; omega)))
    have n0 : (r.k != s.k) = false := by rw [bne, c0]; rfl
    have n1 : (r.pr != s.pr) = false := by rw [bne, c1]; rfl
    have n2 : (r.to != s.to) = false := by rw [bne, c2]; rfl
    have n3 : (r.po != s.po) = false := by rw [bne, c3]; rfl
    have n5 : ((n : Int) != (m : Int)) = true := by rw [bne, c5']; rfl
    clear c5 hl hl2
    go_enter Tryz.func40, Tryz.ntmps40
    go_wp2_with fail
    rw [hp.out]
    go_ret
    exact ⟨rfl, hb0⟩
  have q0 : r.k = s.k := by simpa using c0
  have q1 : r.pr = s.pr := by simpa using c1
  have q2 : r.to = s.to := by simpa using c2
  have q3 : r.po = s.po := by simpa using c3
  have q4 := (eqMB_iff _ _).1 c4
  have q5 : n = m := by have := c5; rw [beq_iff_eq] at this; omega
  have HE : Kp (∀ hh : r.os = s.os, r = s) := Kp.mk (fun hh => E.out.2 ⟨q0, q1, q2, q3, q4, hh⟩)
  have n0 : (r.k != s.k) = false := by rw [bne, c0]; rfl
  have n1 : (r.pr != s.pr) = false := by rw [bne, c1]; rfl
  have n2 : (r.to != s.to) = false := by rw [bne, c2]; rfl
  have n3 : (r.po != s.po) = false := by rw [bne, c3]; rfl
  have n5 : ((n : Int) != (m : Int)) = false := by rw [bne, c5]; rfl
  have HL := Kp.mk (And.intro hl (And.intro hl2 q5))
  clear hl hl2 q5 q0 q1 q2 q3 q4 c0 c1 c2 c3 c5
  have hv1 := (Vb.new 29 w [.int .i64 r.k, .int .i64 r.pr, .int .i64 r.to, .int .i64 r.po, .int .i64 r.x.v, .int .i64 r.x.m, .int .u8 r.x.b0, .int .u8 r.x.b1, .int .u8 r.x.b2, .int .u8 r.x.i0, .int .u8 r.x.i1, .int .u8 r.x.i2, .slice A n c]).alloc (.cells #[.int .i64 s.k, .int .i64 s.pr, .int .i64 s.to, .int .i64 s.po, .int .i64 s.x.v, .int .i64 s.x.m, .int .u8 s.x.b0, .int .u8 s.x.b1, .int .u8 s.x.b2, .int .u8 s.x.i0, .int .u8 s.x.i1, .int .u8 s.x.i2, .slice S m d] 29)
  have hv2 := Vb.new 29 (w.alloc (.cells #[.int .i64 r.k, .int .i64 r.pr, .int .i64 r.to, .int .i64 r.po, .int .i64 r.x.v, .int .i64 r.x.m, .int .u8 r.x.b0, .int .u8 r.x.b1, .int .u8 r.x.b2, .int .u8 r.x.i0, .int .u8 r.x.i1, .int .u8 r.x.i2, .slice A n c] 29)) [.int .i64 s.k, .int .i64 s.pr, .int .i64 s.to, .int .i64 s.po, .int .i64 s.x.v, .int .i64 s.x.m, .int .u8 s.x.b0, .int .u8 s.x.b1, .int .u8 s.x.b2, .int .u8 s.x.i0, .int .u8 s.x.i1, .int .u8 s.x.i2, .slice S m d]
  rw [alloc_size] at hv2
  have hz0 : w.heap.size + 1 < ((w.alloc (.cells #[.int .i64 r.k, .int .i64 r.pr, .int .i64 r.to, .int .i64 r.po, .int .i64 r.x.v, .int .i64 r.x.m, .int .u8 r.x.b0, .int .u8 r.x.b1, .int .u8 r.x.b2, .int .u8 r.x.i0, .int .u8 r.x.i1, .int .u8 r.x.i2, .slice A n c] 29)).alloc (.cells #[.int .i64 s.k, .int .i64 s.pr, .int .i64 s.to, .int .i64 s.po, .int .i64 s.x.v, .int .i64 s.x.m, .int .u8 s.x.b0, .int .u8 s.x.b1, .int .u8 s.x.b2, .int .u8 s.x.i0, .int .u8 s.x.i1, .int .u8 s.x.i2, .slice S m d] 29)).heap.size := by simp
  go_enter Tryz.func40, Tryz.ntmps40
  go_wp2_with fail
  generalize ((w.alloc (.cells #[.int .i64 r.k, .int .i64 r.pr, .int .i64 r.to, .int .i64 r.po, .int .i64 r.x.v, .int .i64 r.x.m, .int .u8 r.x.b0, .int .u8 r.x.b1, .int .u8 r.x.b2, .int .u8 r.x.i0, .int .u8 r.x.i1, .int .u8 r.x.i2, .slice A n c] 29)).alloc (.cells #[.int .i64 s.k, .int .i64 s.pr, .int .i64 s.to, .int .i64 s.po, .int .i64 s.x.v, .int .i64 s.x.m, .int .u8 s.x.b0, .int .u8 s.x.b1, .int .u8 s.x.b2, .int .u8 s.x.i0, .int .u8 s.x.i1, .int .u8 s.x.i2, .slice S m d] 29)) = w0 at *
  have HA := Kp.mk (h.below' hb0 hB)
  have HS := Kp.mk (h2.below' hb0 hB2)
  have g1 := hv1.cell 12 rfl
  have g2 := hv2.cell 12 rfl
  go_loopw [5] (fun i wr => ∃ (k q : Nat), k ≤ n ∧ i = .int .i64 k ∧ Kp (∀ j, j < k → r.os[j]? = s.os[j]?) ∧ wr = w0.drewN q) (fun i _ => n - (intOf i).toNat)
  case atStart => exact ⟨0, 0, by omega, rfl, Kp.mk (fun j hj => absurd hj (by omega)), rfl⟩
  case round =>
    obtain ⟨k, q, hk, rfl, HK, rfl⟩ := hrel
    have hb1 := below_drewN hb0 q
    by_cases hltn : k < n
    rotate_left
    · obtain rfl : k = n := by omega
      have hp := Kp.mk (sameR_yes (HE.out (list_ext (by have := HL.out; omega) (fun j hj => HK.out j (by have := HL.out; omega)))))
      go_wp2_with fail
      rw [hp.out]
      go_ret
      exact ⟨rfl, hb1⟩
    obtain ⟨b, off, eA, hbB, hc⟩ := HA.out.at_ (by omega)
    obtain ⟨b2, off2, eS, hbB2, hc2⟩ := HS.out.at_ (by have := HL.out; omega)
    obtain ⟨x, hx⟩ : ∃ x, r.os[k]? = some x := ⟨_, List.getElem?_eq_getElem (by have := HL.out; omega)⟩
    obtain ⟨y, hy⟩ : ∃ y, s.os[k]? = some y := ⟨_, List.getElem?_eq_getElem (by have := HL.out; omega)⟩
    obtain ⟨d0, d1, d2, d3⟩ := hc k x hx
    obtain ⟨f0, f1, f2, f3⟩ := hc2 k y hy
    subst eA eS
    have j1 : (k : Int) < n := by omega
    have j2 : (k : Int) < m := by have := HL.out; omega
    have eO : ∀ w, (Op.equalIn 10000 32 (.agg #[.int .i64 x.p, .int .i64 x.a, .int .i64 x.b, .int .i64 x.c]) (.agg #[.int .i64 y.p, .int .i64 y.a, .int .i64 y.b, .int .i64 y.c])).run Tryz.prog w = .ok (eqOB x y) w := fun w => eq_out x y w
    have Hx := Kp.mk hx
    have Hy := Kp.mk hy
    clear hc hc2 hx hy
    by_cases c6 : eqOB x y = true
    rotate_left
    · have c6' : eqOB x y = false := by simpa using c6
      have hp := Kp.mk (sameR_no (r := r) (s := s) (fun hh => c6 ((eqOB_iff x y).2 (by have h1 := Hx.out; have h2 := Hy.out; rw [hh, h2] at h1; exact (Option.some.inj h1).symm))))
      clear c6
      go_wp2_with fail
      go_quiet (fail)
      go_wp2_with fail
      rw [hp.out]
      go_ret
      exact ⟨rfl, by repeat first | exact hb1 | refine below_drewN ?_ _⟩
    · have HN : Kp (∀ j, j < k + 1 → r.os[j]? = s.os[j]?) := Kp.mk (fun j hj => by
          by_cases hjk : j < k
          · exact HK.out j hjk
          · obtain rfl : j = k := by omega
            rw [Hx.out, Hy.out, (eqOB_iff x y).1 c6])
      go_wp2_with fail
      go_quiet (fail)
      go_wp2_with fail
      go_roundw
      case rel => exact ⟨k + 1, q + nq, by omega, by go_num, HN, by first | rfl | rw [World.drewN_drewN]⟩
      case measure => simp [intOf]; omega
set_option maxRecDepth 100000 in
set_option maxHeartbeats 3200000 in
theorem lawSame_any {w : World} {B B2 n c m d : Nat} {A S : Option Addr} {r s : RuleV} (h : Ro w B A n c r.os) (hB : B ≤ w.heap.size) (h2 : Ro w B2 S m d s.os) (hB2 : B2 ≤ w.heap.size) : Calls Tryz.prog 22 #[.agg #[.int .i64 r.k, .int .i64 r.pr, .int .i64 r.to, .int .i64 r.po, .int .i64 r.x.v, .int .i64 r.x.m, .int .u8 r.x.b0, .int .u8 r.x.b1, .int .u8 r.x.b2, .int .u8 r.x.i0, .int .u8 r.x.i1, .int .u8 r.x.i2, .slice A n c], .agg #[.int .i64 s.k, .int .i64 s.pr, .int .i64 s.to, .int .i64 s.po, .int .i64 s.x.v, .int .i64 s.x.m, .int .u8 s.x.b0, .int .u8 s.x.b1, .int .u8 s.x.b2, .int .u8 s.x.i0, .int .u8 s.x.i1, .int .u8 s.x.i2, .slice S m d]] w fun e w' => e = .returned (.bool (sameR r s)) ∧ Below w.heap.size w w' := by
  have hl := h.len
  have hl2 := h2.len
  have hmx := h.max
  have E := Kp.mk (RuleV.ext_iff' r s)
  have eM : ∀ w, (Op.equalIn 10000 26 (.agg #[.int .i64 r.x.v, .int .i64 r.x.m, .int .u8 r.x.b0, .int .u8 r.x.b1, .int .u8 r.x.b2, .int .u8 r.x.i0, .int .u8 r.x.i1, .int .u8 r.x.i2]) (.agg #[.int .i64 s.x.v, .int .i64 s.x.m, .int .u8 s.x.b0, .int .u8 s.x.b1, .int .u8 s.x.b2, .int .u8 s.x.i0, .int .u8 s.x.i1, .int .u8 s.x.i2])).run Tryz.prog w = .ok (eqMB r.x s.x) w := fun w => eq_mask r.x s.x w
  have hb0 := below_two w (.cells #[.int .i64 r.k, .int .i64 r.pr, .int .i64 r.to, .int .i64 r.po, .int .i64 r.x.v, .int .i64 r.x.m, .int .u8 r.x.b0, .int .u8 r.x.b1, .int .u8 r.x.b2, .int .u8 r.x.i0, .int .u8 r.x.i1, .int .u8 r.x.i2, .slice A n c] 29) (.cells #[.int .i64 s.k, .int .i64 s.pr, .int .i64 s.to, .int .i64 s.po, .int .i64 s.x.v, .int .i64 s.x.m, .int .u8 s.x.b0, .int .u8 s.x.b1, .int .u8 s.x.b2, .int .u8 s.x.i0, .int .u8 s.x.i1, .int .u8 s.x.i2, .slice S m d] 29)
  by_cases c0 : (r.k == s.k) = true
  rotate_left
  · have c0' : (r.k == s.k) = false := by simpa using c0
    have hp := Kp.mk (sameR_no (r := r) (s := s) (fun hh => c0 (by rw [hh]; exact beq_self_eq_true _)))
    have n0 : (r.k != s.k) = true := by rw [bne, c0']; rfl
    clear c0 hl hl2
    go_enter Tryz.func22, Tryz.ntmps22
    go_wp2_with fail
    rw [hp.out]
    go_ret
    exact ⟨rfl, hb0⟩
  by_cases c1 : (r.pr == s.pr) = true
  rotate_left
  · have c1' : (r.pr == s.pr) = false := by simpa using c1
    have hp := Kp.mk (sameR_no (r := r) (s := s) (fun hh => c1 (by rw [hh]; exact beq_self_eq_true _)))
    have n0 : (r.k != s.k) = false := by rw [bne, c0]; rfl
    have n1 : (r.pr != s.pr) = true := by rw [bne, c1']; rfl
    clear c1 hl hl2
    go_enter Tryz.func22, Tryz.ntmps22
    go_wp2_with fail
    rw [hp.out]
    go_ret
    exact ⟨rfl, hb0⟩
  by_cases c2 : (r.to == s.to) = true
  rotate_left
  · have c2' : (r.to == s.to) = false := by simpa using c2
    have hp := Kp.mk (sameR_no (r := r) (s := s) (fun hh => c2 (by rw [hh]; exact beq_self_eq_true _)))
    have n0 : (r.k != s.k) = false := by rw [bne, c0]; rfl
    have n1 : (r.pr != s.pr) = false := by rw [bne, c1]; rfl
    have n2 : (r.to != s.to) = true := by rw [bne, c2']; rfl
    clear c2 hl hl2
    go_enter Tryz.func22, Tryz.ntmps22
    go_wp2_with fail
    rw [hp.out]
    go_ret
    exact ⟨rfl, hb0⟩
  by_cases c3 : (r.po == s.po) = true
  rotate_left
  · have c3' : (r.po == s.po) = false := by simpa using c3
    have hp := Kp.mk (sameR_no (r := r) (s := s) (fun hh => c3 (by rw [hh]; exact beq_self_eq_true _)))
    have n0 : (r.k != s.k) = false := by rw [bne, c0]; rfl
    have n1 : (r.pr != s.pr) = false := by rw [bne, c1]; rfl
    have n2 : (r.to != s.to) = false := by rw [bne, c2]; rfl
    have n3 : (r.po != s.po) = true := by rw [bne, c3']; rfl
    clear c3 hl hl2
    go_enter Tryz.func22, Tryz.ntmps22
    go_wp2_with fail
    rw [hp.out]
    go_ret
    exact ⟨rfl, hb0⟩
  by_cases c4 : (eqMB r.x s.x) = true
  rotate_left
  · have c4' : (eqMB r.x s.x) = false := by simpa using c4
    have hp := Kp.mk (sameR_no (r := r) (s := s) (fun hh => c4 ((eqMB_iff r.x s.x).2 (by rw [hh]))))
    have n0 : (r.k != s.k) = false := by rw [bne, c0]; rfl
    have n1 : (r.pr != s.pr) = false := by rw [bne, c1]; rfl
    have n2 : (r.to != s.to) = false := by rw [bne, c2]; rfl
    have n3 : (r.po != s.po) = false := by rw [bne, c3]; rfl
    clear c4 hl hl2
    go_enter Tryz.func22, Tryz.ntmps22
    go_wp2_with fail
    rw [hp.out]
    go_ret
    exact ⟨rfl, hb0⟩
  by_cases c5 : ((n : Int) == (m : Int)) = true
  rotate_left
  · have c5' : ((n : Int) == (m : Int)) = false := by simpa using c5
    have hp := Kp.mk (sameR_no (r := r) (s := s) (fun hh => c5 (by have h9 : r.os.length = s.os.length := (by rw [hh]); rw [beq_iff_eq]; omega)))
    have n0 : (r.k != s.k) = false := by rw [bne, c0]; rfl
    have n1 : (r.pr != s.pr) = false := by rw [bne, c1]; rfl
    have n2 : (r.to != s.to) = false := by rw [bne, c2]; rfl
    have n3 : (r.po != s.po) = false := by rw [bne, c3]; rfl
    have n5 : ((n : Int) != (m : Int)) = true := by rw [bne, c5']; rfl
    clear c5 hl hl2
    go_enter Tryz.func22, Tryz.ntmps22
    go_wp2_with fail
    rw [hp.out]
    go_ret
    exact ⟨rfl, hb0⟩
  have q0 : r.k = s.k := by simpa using c0
  have q1 : r.pr = s.pr := by simpa using c1
  have q2 : r.to = s.to := by simpa using c2
  have q3 : r.po = s.po := by simpa using c3
  have q4 := (eqMB_iff _ _).1 c4
  have q5 : n = m := by have := c5; rw [beq_iff_eq] at this; omega
  have HE : Kp (∀ hh : r.os = s.os, r = s) := Kp.mk (fun hh => E.out.2 ⟨q0, q1, q2, q3, q4, hh⟩)
  have n0 : (r.k != s.k) = false := by rw [bne, c0]; rfl
  have n1 : (r.pr != s.pr) = false := by rw [bne, c1]; rfl
  have n2 : (r.to != s.to) = false := by rw [bne, c2]; rfl
  have n3 : (r.po != s.po) = false := by rw [bne, c3]; rfl
  have n5 : ((n : Int) != (m : Int)) = false := by rw [bne, c5]; rfl
  have HL := Kp.mk (And.intro hl (And.intro hl2 q5))
  clear hl hl2 q5 q0 q1 q2 q3 q4 c0 c1 c2 c3 c5
  have hv1 := (Vb.new 29 w [.int .i64 r.k, .int .i64 r.pr, .int .i64 r.to, .int .i64 r.po, .int .i64 r.x.v, .int .i64 r.x.m, .int .u8 r.x.b0, .int .u8 r.x.b1, .int .u8 r.x.b2, .int .u8 r.x.i0, .int .u8 r.x.i1, .int .u8 r.x.i2, .slice A n c]).alloc (.cells #[.int .i64 s.k, .int .i64 s.pr, .int .i64 s.to, .int .i64 s.po, .int .i64 s.x.v, .int .i64 s.x.m, .int .u8 s.x.b0, .int .u8 s.x.b1, .int .u8 s.x.b2, .int .u8 s.x.i0, .int .u8 s.x.i1, .int .u8 s.x.i2, .slice S m d] 29)
  have hv2 := Vb.new 29 (w.alloc (.cells #[.int .i64 r.k, .int .i64 r.pr, .int .i64 r.to, .int .i64 r.po, .int .i64 r.x.v, .int .i64 r.x.m, .int .u8 r.x.b0, .int .u8 r.x.b1, .int .u8 r.x.b2, .int .u8 r.x.i0, .int .u8 r.x.i1, .int .u8 r.x.i2, .slice A n c] 29)) [.int .i64 s.k, .int .i64 s.pr, .int .i64 s.to, .int .i64 s.po, .int .i64 s.x.v, .int .i64 s.x.m, .int .u8 s.x.b0, .int .u8 s.x.b1, .int .u8 s.x.b2, .int .u8 s.x.i0, .int .u8 s.x.i1, .int .u8 s.x.i2, .slice S m d]
  rw [alloc_size] at hv2
  have hz0 : w.heap.size + 1 < ((w.alloc (.cells #[.int .i64 r.k, .int .i64 r.pr, .int .i64 r.to, .int .i64 r.po, .int .i64 r.x.v, .int .i64 r.x.m, .int .u8 r.x.b0, .int .u8 r.x.b1, .int .u8 r.x.b2, .int .u8 r.x.i0, .int .u8 r.x.i1, .int .u8 r.x.i2, .slice A n c] 29)).alloc (.cells #[.int .i64 s.k, .int .i64 s.pr, .int .i64 s.to, .int .i64 s.po, .int .i64 s.x.v, .int .i64 s.x.m, .int .u8 s.x.b0, .int .u8 s.x.b1, .int .u8 s.x.b2, .int .u8 s.x.i0, .int .u8 s.x.i1, .int .u8 s.x.i2, .slice S m d] 29)).heap.size := by simp
  go_enter Tryz.func22, Tryz.ntmps22
  go_wp2_with fail
  generalize ((w.alloc (.cells #[.int .i64 r.k, .int .i64 r.pr, .int .i64 r.to, .int .i64 r.po, .int .i64 r.x.v, .int .i64 r.x.m, .int .u8 r.x.b0, .int .u8 r.x.b1, .int .u8 r.x.b2, .int .u8 r.x.i0, .int .u8 r.x.i1, .int .u8 r.x.i2, .slice A n c] 29)).alloc (.cells #[.int .i64 s.k, .int .i64 s.pr, .int .i64 s.to, .int .i64 s.po, .int .i64 s.x.v, .int .i64 s.x.m, .int .u8 s.x.b0, .int .u8 s.x.b1, .int .u8 s.x.b2, .int .u8 s.x.i0, .int .u8 s.x.i1, .int .u8 s.x.i2, .slice S m d] 29)) = w0 at *
  have HA := Kp.mk (h.below' hb0 hB)
  have HS := Kp.mk (h2.below' hb0 hB2)
  have g1 := hv1.cell 12 rfl
  have g2 := hv2.cell 12 rfl
  go_loopw [5] (fun i wr => ∃ (k q : Nat), k ≤ n ∧ i = .int .i64 k ∧ Kp (∀ j, j < k → r.os[j]? = s.os[j]?) ∧ wr = w0.drewN q) (fun i _ => n - (intOf i).toNat)
  case atStart => exact ⟨0, 0, by omega, rfl, Kp.mk (fun j hj => absurd hj (by omega)), rfl⟩
  case round =>
    obtain ⟨k, q, hk, rfl, HK, rfl⟩ := hrel
    have hb1 := below_drewN hb0 q
    by_cases hltn : k < n
    rotate_left
    · obtain rfl : k = n := by omega
      have hp := Kp.mk (sameR_yes (HE.out (list_ext (by have := HL.out; omega) (fun j hj => HK.out j (by have := HL.out; omega)))))
      go_wp2_with fail
      rw [hp.out]
      go_ret
      exact ⟨rfl, hb1⟩
    obtain ⟨b, off, eA, hbB, hc⟩ := HA.out.at_ (by omega)
    obtain ⟨b2, off2, eS, hbB2, hc2⟩ := HS.out.at_ (by have := HL.out; omega)
    obtain ⟨x, hx⟩ : ∃ x, r.os[k]? = some x := ⟨_, List.getElem?_eq_getElem (by have := HL.out; omega)⟩
    obtain ⟨y, hy⟩ : ∃ y, s.os[k]? = some y := ⟨_, List.getElem?_eq_getElem (by have := HL.out; omega)⟩
    obtain ⟨d0, d1, d2, d3⟩ := hc k x hx
    obtain ⟨f0, f1, f2, f3⟩ := hc2 k y hy
    subst eA eS
    have j1 : (k : Int) < n := by omega
    have j2 : (k : Int) < m := by have := HL.out; omega
    have eO : ∀ w, (Op.equalIn 10000 32 (.agg #[.int .i64 x.p, .int .i64 x.a, .int .i64 x.b, .int .i64 x.c]) (.agg #[.int .i64 y.p, .int .i64 y.a, .int .i64 y.b, .int .i64 y.c])).run Tryz.prog w = .ok (eqOB x y) w := fun w => eq_out x y w
    have Hx := Kp.mk hx
    have Hy := Kp.mk hy
    clear hc hc2 hx hy
    by_cases c6 : eqOB x y = true
    rotate_left
    · have c6' : eqOB x y = false := by simpa using c6
      have hp := Kp.mk (sameR_no (r := r) (s := s) (fun hh => c6 ((eqOB_iff x y).2 (by have h1 := Hx.out; have h2 := Hy.out; rw [hh, h2] at h1; exact (Option.some.inj h1).symm))))
      clear c6
      go_wp2_with fail
      go_quiet (fail)
      go_wp2_with fail
      rw [hp.out]
      go_ret
      exact ⟨rfl, by repeat first | exact hb1 | refine below_drewN ?_ _⟩
    · have HN : Kp (∀ j, j < k + 1 → r.os[j]? = s.os[j]?) := Kp.mk (fun j hj => by
          by_cases hjk : j < k
          · exact HK.out j hjk
          · obtain rfl : j = k := by omega
            rw [Hx.out, Hy.out, (eqOB_iff x y).1 c6])
      go_wp2_with fail
      go_quiet (fail)
      go_wp2_with fail
      go_roundw
      case rel => exact ⟨k + 1, q + nq, by omega, by go_num, HN, by first | rfl | rw [World.drewN_drewN]⟩
      case measure => simp [intOf]; omega
set_option maxRecDepth 100000 in
set_option maxHeartbeats 1600000 in
theorem oSame_0 {w : World} {B B2 n c m d : Nat} {A S : Option Addr} {a b : OrdV} (h : Ro w B A n c a.r.os) (hB : B ≤ w.heap.size) (h2 : Ro w B2 S m d b.r.os) (hB2 : B2 ≤ w.heap.size) (c0' : (a.k == b.k) = false) : Calls Tryz.prog 14 #[.agg #[.int .i64 a.k, .int .i64 a.n, .int .i64 a.m, .int .i64 a.r.k, .int .i64 a.r.pr, .int .i64 a.r.to, .int .i64 a.r.po, .int .i64 a.r.x.v, .int .i64 a.r.x.m, .int .u8 a.r.x.b0, .int .u8 a.r.x.b1, .int .u8 a.r.x.b2, .int .u8 a.r.x.i0, .int .u8 a.r.x.i1, .int .u8 a.r.x.i2, .slice A n c, .int .i64 a.f, .int .i64 a.p, .int .i64 a.t, .int .i64 a.q, .int .i64 a.z], .agg #[.int .i64 b.k, .int .i64 b.n, .int .i64 b.m, .int .i64 b.r.k, .int .i64 b.r.pr, .int .i64 b.r.to, .int .i64 b.r.po, .int .i64 b.r.x.v, .int .i64 b.r.x.m, .int .u8 b.r.x.b0, .int .u8 b.r.x.b1, .int .u8 b.r.x.b2, .int .u8 b.r.x.i0, .int .u8 b.r.x.i1, .int .u8 b.r.x.i2, .slice S m d, .int .i64 b.f, .int .i64 b.p, .int .i64 b.t, .int .i64 b.q, .int .i64 b.z]] w fun e w' => e = .returned (.bool (sameO a b)) ∧ Below w.heap.size w w' := by
  have hp := Kp.mk (show sameO a b = false by unfold sameO; rw [c0']; rfl)
  have eQ : ∀ w, (Op.equalIn 10000 34 (.agg #[.int .i64 a.f, .int .i64 a.p, .int .i64 a.t, .int .i64 a.q, .int .i64 a.z]) (.agg #[.int .i64 b.f, .int .i64 b.p, .int .i64 b.t, .int .i64 b.q, .int .i64 b.z])).run Tryz.prog w = .ok (eqQB a.f a.p a.t a.q a.z b.f b.p b.t b.q b.z) w := fun w => eq_probe _ _ _ _ _ _ _ _ _ _ w
  have hb0 := below_two w (.cells #[.int .i64 a.k, .int .i64 a.n, .int .i64 a.m, .int .i64 a.r.k, .int .i64 a.r.pr, .int .i64 a.r.to, .int .i64 a.r.po, .int .i64 a.r.x.v, .int .i64 a.r.x.m, .int .u8 a.r.x.b0, .int .u8 a.r.x.b1, .int .u8 a.r.x.b2, .int .u8 a.r.x.i0, .int .u8 a.r.x.i1, .int .u8 a.r.x.i2, .slice A n c, .int .i64 a.f, .int .i64 a.p, .int .i64 a.t, .int .i64 a.q, .int .i64 a.z] 37) (.cells #[.int .i64 b.k, .int .i64 b.n, .int .i64 b.m, .int .i64 b.r.k, .int .i64 b.r.pr, .int .i64 b.r.to, .int .i64 b.r.po, .int .i64 b.r.x.v, .int .i64 b.r.x.m, .int .u8 b.r.x.b0, .int .u8 b.r.x.b1, .int .u8 b.r.x.b2, .int .u8 b.r.x.i0, .int .u8 b.r.x.i1, .int .u8 b.r.x.i2, .slice S m d, .int .i64 b.f, .int .i64 b.p, .int .i64 b.t, .int .i64 b.q, .int .i64 b.z] 37)
  have hv1 := (Vb.new 37 w (ocl a (.slice A n c))).alloc (.cells #[.int .i64 b.k, .int .i64 b.n, .int .i64 b.m, .int .i64 b.r.k, .int .i64 b.r.pr, .int .i64 b.r.to, .int .i64 b.r.po, .int .i64 b.r.x.v, .int .i64 b.r.x.m, .int .u8 b.r.x.b0, .int .u8 b.r.x.b1, .int .u8 b.r.x.b2, .int .u8 b.r.x.i0, .int .u8 b.r.x.i1, .int .u8 b.r.x.i2, .slice S m d, .int .i64 b.f, .int .i64 b.p, .int .i64 b.t, .int .i64 b.q, .int .i64 b.z] 37)
  have hv2 : Vb 37 ((w.alloc (.cells #[.int .i64 a.k, .int .i64 a.n, .int .i64 a.m, .int .i64 a.r.k, .int .i64 a.r.pr, .int .i64 a.r.to, .int .i64 a.r.po, .int .i64 a.r.x.v, .int .i64 a.r.x.m, .int .u8 a.r.x.b0, .int .u8 a.r.x.b1, .int .u8 a.r.x.b2, .int .u8 a.r.x.i0, .int .u8 a.r.x.i1, .int .u8 a.r.x.i2, .slice A n c, .int .i64 a.f, .int .i64 a.p, .int .i64 a.t, .int .i64 a.q, .int .i64 a.z] 37)).alloc (.cells #[.int .i64 b.k, .int .i64 b.n, .int .i64 b.m, .int .i64 b.r.k, .int .i64 b.r.pr, .int .i64 b.r.to, .int .i64 b.r.po, .int .i64 b.r.x.v, .int .i64 b.r.x.m, .int .u8 b.r.x.b0, .int .u8 b.r.x.b1, .int .u8 b.r.x.b2, .int .u8 b.r.x.i0, .int .u8 b.r.x.i1, .int .u8 b.r.x.i2, .slice S m d, .int .i64 b.f, .int .i64 b.p, .int .i64 b.t, .int .i64 b.q, .int .i64 b.z] 37)) (w.heap.size + 1) (ocl b (.slice S m d)) := by have := Vb.new 37 (w.alloc (.cells #[.int .i64 a.k, .int .i64 a.n, .int .i64 a.m, .int .i64 a.r.k, .int .i64 a.r.pr, .int .i64 a.r.to, .int .i64 a.r.po, .int .i64 a.r.x.v, .int .i64 a.r.x.m, .int .u8 a.r.x.b0, .int .u8 a.r.x.b1, .int .u8 a.r.x.b2, .int .u8 a.r.x.i0, .int .u8 a.r.x.i1, .int .u8 a.r.x.i2, .slice A n c, .int .i64 a.f, .int .i64 a.p, .int .i64 a.t, .int .i64 a.q, .int .i64 a.z] 37)) (ocl b (.slice S m d)); rw [alloc_size] at this; exact this
  have ha := h.below' hb0 hB
  have hb := h2.below' hb0 hB2
  have hz : w.heap.size < ((w.alloc (.cells #[.int .i64 a.k, .int .i64 a.n, .int .i64 a.m, .int .i64 a.r.k, .int .i64 a.r.pr, .int .i64 a.r.to, .int .i64 a.r.po, .int .i64 a.r.x.v, .int .i64 a.r.x.m, .int .u8 a.r.x.b0, .int .u8 a.r.x.b1, .int .u8 a.r.x.b2, .int .u8 a.r.x.i0, .int .u8 a.r.x.i1, .int .u8 a.r.x.i2, .slice A n c, .int .i64 a.f, .int .i64 a.p, .int .i64 a.t, .int .i64 a.q, .int .i64 a.z] 37)).alloc (.cells #[.int .i64 b.k, .int .i64 b.n, .int .i64 b.m, .int .i64 b.r.k, .int .i64 b.r.pr, .int .i64 b.r.to, .int .i64 b.r.po, .int .i64 b.r.x.v, .int .i64 b.r.x.m, .int .u8 b.r.x.b0, .int .u8 b.r.x.b1, .int .u8 b.r.x.b2, .int .u8 b.r.x.i0, .int .u8 b.r.x.i1, .int .u8 b.r.x.i2, .slice S m d, .int .i64 b.f, .int .i64 b.p, .int .i64 b.t, .int .i64 b.q, .int .i64 b.z] 37)).heap.size := by simp; omega
  change Vb _ ((w.alloc (.cells #[.int .i64 a.k, .int .i64 a.n, .int .i64 a.m, .int .i64 a.r.k, .int .i64 a.r.pr, .int .i64 a.r.to, .int .i64 a.r.po, .int .i64 a.r.x.v, .int .i64 a.r.x.m, .int .u8 a.r.x.b0, .int .u8 a.r.x.b1, .int .u8 a.r.x.b2, .int .u8 a.r.x.i0, .int .u8 a.r.x.i1, .int .u8 a.r.x.i2, .slice A n c, .int .i64 a.f, .int .i64 a.p, .int .i64 a.t, .int .i64 a.q, .int .i64 a.z] 37)).alloc (.cells #[.int .i64 b.k, .int .i64 b.n, .int .i64 b.m, .int .i64 b.r.k, .int .i64 b.r.pr, .int .i64 b.r.to, .int .i64 b.r.po, .int .i64 b.r.x.v, .int .i64 b.r.x.m, .int .u8 b.r.x.b0, .int .u8 b.r.x.b1, .int .u8 b.r.x.b2, .int .u8 b.r.x.i0, .int .u8 b.r.x.i1, .int .u8 b.r.x.i2, .slice S m d, .int .i64 b.f, .int .i64 b.p, .int .i64 b.t, .int .i64 b.q, .int .i64 b.z] 37)) _ _ at hv1
  go_enter Tryz.func14, Tryz.ntmps14
  go_upto_region 1 with fail
  generalize ((w.alloc (.cells #[.int .i64 a.k, .int .i64 a.n, .int .i64 a.m, .int .i64 a.r.k, .int .i64 a.r.pr, .int .i64 a.r.to, .int .i64 a.r.po, .int .i64 a.r.x.v, .int .i64 a.r.x.m, .int .u8 a.r.x.b0, .int .u8 a.r.x.b1, .int .u8 a.r.x.b2, .int .u8 a.r.x.i0, .int .u8 a.r.x.i1, .int .u8 a.r.x.i2, .slice A n c, .int .i64 a.f, .int .i64 a.p, .int .i64 a.t, .int .i64 a.q, .int .i64 a.z] 37)).alloc (.cells #[.int .i64 b.k, .int .i64 b.n, .int .i64 b.m, .int .i64 b.r.k, .int .i64 b.r.pr, .int .i64 b.r.to, .int .i64 b.r.po, .int .i64 b.r.x.v, .int .i64 b.r.x.m, .int .u8 b.r.x.b0, .int .u8 b.r.x.b1, .int .u8 b.r.x.b2, .int .u8 b.r.x.i0, .int .u8 b.r.x.i1, .int .u8 b.r.x.i2, .slice S m d, .int .i64 b.f, .int .i64 b.p, .int .i64 b.t, .int .i64 b.q, .int .i64 b.z] 37)) = w0 at *
  have d0 := hv1.ord.1
  have d1 := hv1.ord.2.1
  have d2 := hv1.ord.2.2.1
  have f0 := hv2.ord.1
  have f1 := hv2.ord.2.1
  have f2 := hv2.ord.2.2.1
  go_wp2_with (first | (refine wpList_load_want (vs := [.int .i64 a.f, .int .i64 a.p, .int .i64 a.t, .int .i64 a.q, .int .i64 a.z]) (by rfl) (.tmp 25) rfl rfl hv1 rfl agg_probe ?_) | (refine wpList_load_want (vs := [.int .i64 b.f, .int .i64 b.p, .int .i64 b.t, .int .i64 b.q, .int .i64 b.z]) (by rfl) (.tmp 27) rfl rfl hv2 rfl agg_probe ?_) | (refine wpList_load_want (vs := rcl a.r (.slice A n c)) (by rfl) (.tmp 32) rfl rfl hv1 rfl agg_rule ?_) | (refine wpList_load_want (vs := rcl b.r (.slice S m d)) (by rfl) (.tmp 34) rfl rfl hv2 rfl agg_rule ?_))
  rw [hp.out]
  go_ret
  exact ⟨rfl, hb0⟩
set_option maxRecDepth 100000 in
set_option maxHeartbeats 1600000 in
theorem oSame_1 {w : World} {B B2 n c m d : Nat} {A S : Option Addr} {a b : OrdV} (h : Ro w B A n c a.r.os) (hB : B ≤ w.heap.size) (h2 : Ro w B2 S m d b.r.os) (hB2 : B2 ≤ w.heap.size) (c0 : (a.k == b.k) = true) (c1' : (a.n == b.n) = false) : Calls Tryz.prog 14 #[.agg #[.int .i64 a.k, .int .i64 a.n, .int .i64 a.m, .int .i64 a.r.k, .int .i64 a.r.pr, .int .i64 a.r.to, .int .i64 a.r.po, .int .i64 a.r.x.v, .int .i64 a.r.x.m, .int .u8 a.r.x.b0, .int .u8 a.r.x.b1, .int .u8 a.r.x.b2, .int .u8 a.r.x.i0, .int .u8 a.r.x.i1, .int .u8 a.r.x.i2, .slice A n c, .int .i64 a.f, .int .i64 a.p, .int .i64 a.t, .int .i64 a.q, .int .i64 a.z], .agg #[.int .i64 b.k, .int .i64 b.n, .int .i64 b.m, .int .i64 b.r.k, .int .i64 b.r.pr, .int .i64 b.r.to, .int .i64 b.r.po, .int .i64 b.r.x.v, .int .i64 b.r.x.m, .int .u8 b.r.x.b0, .int .u8 b.r.x.b1, .int .u8 b.r.x.b2, .int .u8 b.r.x.i0, .int .u8 b.r.x.i1, .int .u8 b.r.x.i2, .slice S m d, .int .i64 b.f, .int .i64 b.p, .int .i64 b.t, .int .i64 b.q, .int .i64 b.z]] w fun e w' => e = .returned (.bool (sameO a b)) ∧ Below w.heap.size w w' := by
  have hp := Kp.mk (show sameO a b = false by unfold sameO; rw [c0, c1']; rfl)
  have eQ : ∀ w, (Op.equalIn 10000 34 (.agg #[.int .i64 a.f, .int .i64 a.p, .int .i64 a.t, .int .i64 a.q, .int .i64 a.z]) (.agg #[.int .i64 b.f, .int .i64 b.p, .int .i64 b.t, .int .i64 b.q, .int .i64 b.z])).run Tryz.prog w = .ok (eqQB a.f a.p a.t a.q a.z b.f b.p b.t b.q b.z) w := fun w => eq_probe _ _ _ _ _ _ _ _ _ _ w
  have hb0 := below_two w (.cells #[.int .i64 a.k, .int .i64 a.n, .int .i64 a.m, .int .i64 a.r.k, .int .i64 a.r.pr, .int .i64 a.r.to, .int .i64 a.r.po, .int .i64 a.r.x.v, .int .i64 a.r.x.m, .int .u8 a.r.x.b0, .int .u8 a.r.x.b1, .int .u8 a.r.x.b2, .int .u8 a.r.x.i0, .int .u8 a.r.x.i1, .int .u8 a.r.x.i2, .slice A n c, .int .i64 a.f, .int .i64 a.p, .int .i64 a.t, .int .i64 a.q, .int .i64 a.z] 37) (.cells #[.int .i64 b.k, .int .i64 b.n, .int .i64 b.m, .int .i64 b.r.k, .int .i64 b.r.pr, .int .i64 b.r.to, .int .i64 b.r.po, .int .i64 b.r.x.v, .int .i64 b.r.x.m, .int .u8 b.r.x.b0, .int .u8 b.r.x.b1, .int .u8 b.r.x.b2, .int .u8 b.r.x.i0, .int .u8 b.r.x.i1, .int .u8 b.r.x.i2, .slice S m d, .int .i64 b.f, .int .i64 b.p, .int .i64 b.t, .int .i64 b.q, .int .i64 b.z] 37)
  have hv1 := (Vb.new 37 w (ocl a (.slice A n c))).alloc (.cells #[.int .i64 b.k, .int .i64 b.n, .int .i64 b.m, .int .i64 b.r.k, .int .i64 b.r.pr, .int .i64 b.r.to, .int .i64 b.r.po, .int .i64 b.r.x.v, .int .i64 b.r.x.m, .int .u8 b.r.x.b0, .int .u8 b.r.x.b1, .int .u8 b.r.x.b2, .int .u8 b.r.x.i0, .int .u8 b.r.x.i1, .int .u8 b.r.x.i2, .slice S m d, .int .i64 b.f, .int .i64 b.p, .int .i64 b.t, .int .i64 b.q, .int .i64 b.z] 37)
  have hv2 : Vb 37 ((w.alloc (.cells #[.int .i64 a.k, .int .i64 a.n, .int .i64 a.m, .int .i64 a.r.k, .int .i64 a.r.pr, .int .i64 a.r.to, .int .i64 a.r.po, .int .i64 a.r.x.v, .int .i64 a.r.x.m, .int .u8 a.r.x.b0, .int .u8 a.r.x.b1, .int .u8 a.r.x.b2, .int .u8 a.r.x.i0, .int .u8 a.r.x.i1, .int .u8 a.r.x.i2, .slice A n c, .int .i64 a.f, .int .i64 a.p, .int .i64 a.t, .int .i64 a.q, .int .i64 a.z] 37)).alloc (.cells #[.int .i64 b.k, .int .i64 b.n, .int .i64 b.m, .int .i64 b.r.k, .int .i64 b.r.pr, .int .i64 b.r.to, .int .i64 b.r.po, .int .i64 b.r.x.v, .int .i64 b.r.x.m, .int .u8 b.r.x.b0, .int .u8 b.r.x.b1, .int .u8 b.r.x.b2, .int .u8 b.r.x.i0, .int .u8 b.r.x.i1, .int .u8 b.r.x.i2, .slice S m d, .int .i64 b.f, .int .i64 b.p, .int .i64 b.t, .int .i64 b.q, .int .i64 b.z] 37)) (w.heap.size + 1) (ocl b (.slice S m d)) := by have := Vb.new 37 (w.alloc (.cells #[.int .i64 a.k, .int .i64 a.n, .int .i64 a.m, .int .i64 a.r.k, .int .i64 a.r.pr, .int .i64 a.r.to, .int .i64 a.r.po, .int .i64 a.r.x.v, .int .i64 a.r.x.m, .int .u8 a.r.x.b0, .int .u8 a.r.x.b1, .int .u8 a.r.x.b2, .int .u8 a.r.x.i0, .int .u8 a.r.x.i1, .int .u8 a.r.x.i2, .slice A n c, .int .i64 a.f, .int .i64 a.p, .int .i64 a.t, .int .i64 a.q, .int .i64 a.z] 37)) (ocl b (.slice S m d)); rw [alloc_size] at this; exact this
  have ha := h.below' hb0 hB
  have hb := h2.below' hb0 hB2
  have hz : w.heap.size < ((w.alloc (.cells #[.int .i64 a.k, .int .i64 a.n, .int .i64 a.m, .int .i64 a.r.k, .int .i64 a.r.pr, .int .i64 a.r.to, .int .i64 a.r.po, .int .i64 a.r.x.v, .int .i64 a.r.x.m, .int .u8 a.r.x.b0, .int .u8 a.r.x.b1, .int .u8 a.r.x.b2, .int .u8 a.r.x.i0, .int .u8 a.r.x.i1, .int .u8 a.r.x.i2, .slice A n c, .int .i64 a.f, .int .i64 a.p, .int .i64 a.t, .int .i64 a.q, .int .i64 a.z] 37)).alloc (.cells #[.int .i64 b.k, .int .i64 b.n, .int .i64 b.m, .int .i64 b.r.k, .int .i64 b.r.pr, .int .i64 b.r.to, .int .i64 b.r.po, .int .i64 b.r.x.v, .int .i64 b.r.x.m, .int .u8 b.r.x.b0, .int .u8 b.r.x.b1, .int .u8 b.r.x.b2, .int .u8 b.r.x.i0, .int .u8 b.r.x.i1, .int .u8 b.r.x.i2, .slice S m d, .int .i64 b.f, .int .i64 b.p, .int .i64 b.t, .int .i64 b.q, .int .i64 b.z] 37)).heap.size := by simp; omega
  change Vb _ ((w.alloc (.cells #[.int .i64 a.k, .int .i64 a.n, .int .i64 a.m, .int .i64 a.r.k, .int .i64 a.r.pr, .int .i64 a.r.to, .int .i64 a.r.po, .int .i64 a.r.x.v, .int .i64 a.r.x.m, .int .u8 a.r.x.b0, .int .u8 a.r.x.b1, .int .u8 a.r.x.b2, .int .u8 a.r.x.i0, .int .u8 a.r.x.i1, .int .u8 a.r.x.i2, .slice A n c, .int .i64 a.f, .int .i64 a.p, .int .i64 a.t, .int .i64 a.q, .int .i64 a.z] 37)).alloc (.cells #[.int .i64 b.k, .int .i64 b.n, .int .i64 b.m, .int .i64 b.r.k, .int .i64 b.r.pr, .int .i64 b.r.to, .int .i64 b.r.po, .int .i64 b.r.x.v, .int .i64 b.r.x.m, .int .u8 b.r.x.b0, .int .u8 b.r.x.b1, .int .u8 b.r.x.b2, .int .u8 b.r.x.i0, .int .u8 b.r.x.i1, .int .u8 b.r.x.i2, .slice S m d, .int .i64 b.f, .int .i64 b.p, .int .i64 b.t, .int .i64 b.q, .int .i64 b.z] 37)) _ _ at hv1
  go_enter Tryz.func14, Tryz.ntmps14
  go_upto_region 1 with fail
  generalize ((w.alloc (.cells #[.int .i64 a.k, .int .i64 a.n, .int .i64 a.m, .int .i64 a.r.k, .int .i64 a.r.pr, .int .i64 a.r.to, .int .i64 a.r.po, .int .i64 a.r.x.v, .int .i64 a.r.x.m, .int .u8 a.r.x.b0, .int .u8 a.r.x.b1, .int .u8 a.r.x.b2, .int .u8 a.r.x.i0, .int .u8 a.r.x.i1, .int .u8 a.r.x.i2, .slice A n c, .int .i64 a.f, .int .i64 a.p, .int .i64 a.t, .int .i64 a.q, .int .i64 a.z] 37)).alloc (.cells #[.int .i64 b.k, .int .i64 b.n, .int .i64 b.m, .int .i64 b.r.k, .int .i64 b.r.pr, .int .i64 b.r.to, .int .i64 b.r.po, .int .i64 b.r.x.v, .int .i64 b.r.x.m, .int .u8 b.r.x.b0, .int .u8 b.r.x.b1, .int .u8 b.r.x.b2, .int .u8 b.r.x.i0, .int .u8 b.r.x.i1, .int .u8 b.r.x.i2, .slice S m d, .int .i64 b.f, .int .i64 b.p, .int .i64 b.t, .int .i64 b.q, .int .i64 b.z] 37)) = w0 at *
  have d0 := hv1.ord.1
  have d1 := hv1.ord.2.1
  have d2 := hv1.ord.2.2.1
  have f0 := hv2.ord.1
  have f1 := hv2.ord.2.1
  have f2 := hv2.ord.2.2.1
  go_wp2_with (first | (refine wpList_load_want (vs := [.int .i64 a.f, .int .i64 a.p, .int .i64 a.t, .int .i64 a.q, .int .i64 a.z]) (by rfl) (.tmp 25) rfl rfl hv1 rfl agg_probe ?_) | (refine wpList_load_want (vs := [.int .i64 b.f, .int .i64 b.p, .int .i64 b.t, .int .i64 b.q, .int .i64 b.z]) (by rfl) (.tmp 27) rfl rfl hv2 rfl agg_probe ?_) | (refine wpList_load_want (vs := rcl a.r (.slice A n c)) (by rfl) (.tmp 32) rfl rfl hv1 rfl agg_rule ?_) | (refine wpList_load_want (vs := rcl b.r (.slice S m d)) (by rfl) (.tmp 34) rfl rfl hv2 rfl agg_rule ?_))
  rw [hp.out]
  go_ret
  exact ⟨rfl, hb0⟩
set_option maxRecDepth 100000 in
set_option maxHeartbeats 1600000 in
theorem oSame_2 {w : World} {B B2 n c m d : Nat} {A S : Option Addr} {a b : OrdV} (h : Ro w B A n c a.r.os) (hB : B ≤ w.heap.size) (h2 : Ro w B2 S m d b.r.os) (hB2 : B2 ≤ w.heap.size) (c0 : (a.k == b.k) = true) (c1 : (a.n == b.n) = true) (c2' : (a.m == b.m) = false) : Calls Tryz.prog 14 #[.agg #[.int .i64 a.k, .int .i64 a.n, .int .i64 a.m, .int .i64 a.r.k, .int .i64 a.r.pr, .int .i64 a.r.to, .int .i64 a.r.po, .int .i64 a.r.x.v, .int .i64 a.r.x.m, .int .u8 a.r.x.b0, .int .u8 a.r.x.b1, .int .u8 a.r.x.b2, .int .u8 a.r.x.i0, .int .u8 a.r.x.i1, .int .u8 a.r.x.i2, .slice A n c, .int .i64 a.f, .int .i64 a.p, .int .i64 a.t, .int .i64 a.q, .int .i64 a.z], .agg #[.int .i64 b.k, .int .i64 b.n, .int .i64 b.m, .int .i64 b.r.k, .int .i64 b.r.pr, .int .i64 b.r.to, .int .i64 b.r.po, .int .i64 b.r.x.v, .int .i64 b.r.x.m, .int .u8 b.r.x.b0, .int .u8 b.r.x.b1, .int .u8 b.r.x.b2, .int .u8 b.r.x.i0, .int .u8 b.r.x.i1, .int .u8 b.r.x.i2, .slice S m d, .int .i64 b.f, .int .i64 b.p, .int .i64 b.t, .int .i64 b.q, .int .i64 b.z]] w fun e w' => e = .returned (.bool (sameO a b)) ∧ Below w.heap.size w w' := by
  have hp := Kp.mk (show sameO a b = false by unfold sameO; rw [c0, c1, c2']; rfl)
  have eQ : ∀ w, (Op.equalIn 10000 34 (.agg #[.int .i64 a.f, .int .i64 a.p, .int .i64 a.t, .int .i64 a.q, .int .i64 a.z]) (.agg #[.int .i64 b.f, .int .i64 b.p, .int .i64 b.t, .int .i64 b.q, .int .i64 b.z])).run Tryz.prog w = .ok (eqQB a.f a.p a.t a.q a.z b.f b.p b.t b.q b.z) w := fun w => eq_probe _ _ _ _ _ _ _ _ _ _ w
  have hb0 := below_two w (.cells #[.int .i64 a.k, .int .i64 a.n, .int .i64 a.m, .int .i64 a.r.k, .int .i64 a.r.pr, .int .i64 a.r.to, .int .i64 a.r.po, .int .i64 a.r.x.v, .int .i64 a.r.x.m, .int .u8 a.r.x.b0, .int .u8 a.r.x.b1, .int .u8 a.r.x.b2, .int .u8 a.r.x.i0, .int .u8 a.r.x.i1, .int .u8 a.r.x.i2, .slice A n c, .int .i64 a.f, .int .i64 a.p, .int .i64 a.t, .int .i64 a.q, .int .i64 a.z] 37) (.cells #[.int .i64 b.k, .int .i64 b.n, .int .i64 b.m, .int .i64 b.r.k, .int .i64 b.r.pr, .int .i64 b.r.to, .int .i64 b.r.po, .int .i64 b.r.x.v, .int .i64 b.r.x.m, .int .u8 b.r.x.b0, .int .u8 b.r.x.b1, .int .u8 b.r.x.b2, .int .u8 b.r.x.i0, .int .u8 b.r.x.i1, .int .u8 b.r.x.i2, .slice S m d, .int .i64 b.f, .int .i64 b.p, .int .i64 b.t, .int .i64 b.q, .int .i64 b.z] 37)
  have hv1 := (Vb.new 37 w (ocl a (.slice A n c))).alloc (.cells #[.int .i64 b.k, .int .i64 b.n, .int .i64 b.m, .int .i64 b.r.k, .int .i64 b.r.pr, .int .i64 b.r.to, .int .i64 b.r.po, .int .i64 b.r.x.v, .int .i64 b.r.x.m, .int .u8 b.r.x.b0, .int .u8 b.r.x.b1, .int .u8 b.r.x.b2, .int .u8 b.r.x.i0, .int .u8 b.r.x.i1, .int .u8 b.r.x.i2, .slice S m d, .int .i64 b.f, .int .i64 b.p, .int .i64 b.t, .int .i64 b.q, .int .i64 b.z] 37)
  have hv2 : Vb 37 ((w.alloc (.cells #[.int .i64 a.k, .int .i64 a.n, .int .i64 a.m, .int .i64 a.r.k, .int .i64 a.r.pr, .int .i64 a.r.to, .int .i64 a.r.po, .int .i64 a.r.x.v, .int .i64 a.r.x.m, .int .u8 a.r.x.b0, .int .u8 a.r.x.b1, .int .u8 a.r.x.b2, .int .u8 a.r.x.i0, .int .u8 a.r.x.i1, .int .u8 a.r.x.i2, .slice A n c, .int .i64 a.f, .int .i64 a.p, .int .i64 a.t, .int .i64 a.q, .int .i64 a.z] 37)).alloc (.cells #[.int .i64 b.k, .int .i64 b.n, .int .i64 b.m, .int .i64 b.r.k, .int .i64 b.r.pr, .int .i64 b.r.to, .int .i64 b.r.po, .int .i64 b.r.x.v, .int .i64 b.r.x.m, .int .u8 b.r.x.b0, .int .u8 b.r.x.b1, .int .u8 b.r.x.b2, .int .u8 b.r.x.i0, .int .u8 b.r.x.i1, .int .u8 b.r.x.i2, .slice S m d, .int .i64 b.f, .int .i64 b.p, .int .i64 b.t, .int .i64 b.q, .int .i64 b.z] 37)) (w.heap.size + 1) (ocl b (.slice S m d)) := by have := Vb.new 37 (w.alloc (.cells #[.int .i64 a.k, .int .i64 a.n, .int .i64 a.m, .int .i64 a.r.k, .int .i64 a.r.pr, .int .i64 a.r.to, .int .i64 a.r.po, .int .i64 a.r.x.v, .int .i64 a.r.x.m, .int .u8 a.r.x.b0, .int .u8 a.r.x.b1, .int .u8 a.r.x.b2, .int .u8 a.r.x.i0, .int .u8 a.r.x.i1, .int .u8 a.r.x.i2, .slice A n c, .int .i64 a.f, .int .i64 a.p, .int .i64 a.t, .int .i64 a.q, .int .i64 a.z] 37)) (ocl b (.slice S m d)); rw [alloc_size] at this; exact this
  have ha := h.below' hb0 hB
  have hb := h2.below' hb0 hB2
  have hz : w.heap.size < ((w.alloc (.cells #[.int .i64 a.k, .int .i64 a.n, .int .i64 a.m, .int .i64 a.r.k, .int .i64 a.r.pr, .int .i64 a.r.to, .int .i64 a.r.po, .int .i64 a.r.x.v, .int .i64 a.r.x.m, .int .u8 a.r.x.b0, .int .u8 a.r.x.b1, .int .u8 a.r.x.b2, .int .u8 a.r.x.i0, .int .u8 a.r.x.i1, .int .u8 a.r.x.i2, .slice A n c, .int .i64 a.f, .int .i64 a.p, .int .i64 a.t, .int .i64 a.q, .int .i64 a.z] 37)).alloc (.cells #[.int .i64 b.k, .int .i64 b.n, .int .i64 b.m, .int .i64 b.r.k, .int .i64 b.r.pr, .int .i64 b.r.to, .int .i64 b.r.po, .int .i64 b.r.x.v, .int .i64 b.r.x.m, .int .u8 b.r.x.b0, .int .u8 b.r.x.b1, .int .u8 b.r.x.b2, .int .u8 b.r.x.i0, .int .u8 b.r.x.i1, .int .u8 b.r.x.i2, .slice S m d, .int .i64 b.f, .int .i64 b.p, .int .i64 b.t, .int .i64 b.q, .int .i64 b.z] 37)).heap.size := by simp; omega
  change Vb _ ((w.alloc (.cells #[.int .i64 a.k, .int .i64 a.n, .int .i64 a.m, .int .i64 a.r.k, .int .i64 a.r.pr, .int .i64 a.r.to, .int .i64 a.r.po, .int .i64 a.r.x.v, .int .i64 a.r.x.m, .int .u8 a.r.x.b0, .int .u8 a.r.x.b1, .int .u8 a.r.x.b2, .int .u8 a.r.x.i0, .int .u8 a.r.x.i1, .int .u8 a.r.x.i2, .slice A n c, .int .i64 a.f, .int .i64 a.p, .int .i64 a.t, .int .i64 a.q, .int .i64 a.z] 37)).alloc (.cells #[.int .i64 b.k, .int .i64 b.n, .int .i64 b.m, .int .i64 b.r.k, .int .i64 b.r.pr, .int .i64 b.r.to, .int .i64 b.r.po, .int .i64 b.r.x.v, .int .i64 b.r.x.m, .int .u8 b.r.x.b0, .int .u8 b.r.x.b1, .int .u8 b.r.x.b2, .int .u8 b.r.x.i0, .int .u8 b.r.x.i1, .int .u8 b.r.x.i2, .slice S m d, .int .i64 b.f, .int .i64 b.p, .int .i64 b.t, .int .i64 b.q, .int .i64 b.z] 37)) _ _ at hv1
  go_enter Tryz.func14, Tryz.ntmps14
  go_upto_region 1 with fail
  generalize ((w.alloc (.cells #[.int .i64 a.k, .int .i64 a.n, .int .i64 a.m, .int .i64 a.r.k, .int .i64 a.r.pr, .int .i64 a.r.to, .int .i64 a.r.po, .int .i64 a.r.x.v, .int .i64 a.r.x.m, .int .u8 a.r.x.b0, .int .u8 a.r.x.b1, .int .u8 a.r.x.b2, .int .u8 a.r.x.i0, .int .u8 a.r.x.i1, .int .u8 a.r.x.i2, .slice A n c, .int .i64 a.f, .int .i64 a.p, .int .i64 a.t, .int .i64 a.q, .int .i64 a.z] 37)).alloc (.cells #[.int .i64 b.k, .int .i64 b.n, .int .i64 b.m, .int .i64 b.r.k, .int .i64 b.r.pr, .int .i64 b.r.to, .int .i64 b.r.po, .int .i64 b.r.x.v, .int .i64 b.r.x.m, .int .u8 b.r.x.b0, .int .u8 b.r.x.b1, .int .u8 b.r.x.b2, .int .u8 b.r.x.i0, .int .u8 b.r.x.i1, .int .u8 b.r.x.i2, .slice S m d, .int .i64 b.f, .int .i64 b.p, .int .i64 b.t, .int .i64 b.q, .int .i64 b.z] 37)) = w0 at *
  have d0 := hv1.ord.1
  have d1 := hv1.ord.2.1
  have d2 := hv1.ord.2.2.1
  have f0 := hv2.ord.1
  have f1 := hv2.ord.2.1
  have f2 := hv2.ord.2.2.1
  go_wp2_with (first | (refine wpList_load_want (vs := [.int .i64 a.f, .int .i64 a.p, .int .i64 a.t, .int .i64 a.q, .int .i64 a.z]) (by rfl) (.tmp 25) rfl rfl hv1 rfl agg_probe ?_) | (refine wpList_load_want (vs := [.int .i64 b.f, .int .i64 b.p, .int .i64 b.t, .int .i64 b.q, .int .i64 b.z]) (by rfl) (.tmp 27) rfl rfl hv2 rfl agg_probe ?_) | (refine wpList_load_want (vs := rcl a.r (.slice A n c)) (by rfl) (.tmp 32) rfl rfl hv1 rfl agg_rule ?_) | (refine wpList_load_want (vs := rcl b.r (.slice S m d)) (by rfl) (.tmp 34) rfl rfl hv2 rfl agg_rule ?_))
  rw [hp.out]
  go_ret
  exact ⟨rfl, hb0⟩
set_option maxRecDepth 100000 in
set_option maxHeartbeats 1600000 in
theorem oSame_3 {w : World} {B B2 n c m d : Nat} {A S : Option Addr} {a b : OrdV} (h : Ro w B A n c a.r.os) (hB : B ≤ w.heap.size) (h2 : Ro w B2 S m d b.r.os) (hB2 : B2 ≤ w.heap.size) (c0 : (a.k == b.k) = true) (c1 : (a.n == b.n) = true) (c2 : (a.m == b.m) = true) (c3' : (eqQB a.f a.p a.t a.q a.z b.f b.p b.t b.q b.z) = false) : Calls Tryz.prog 14 #[.agg #[.int .i64 a.k, .int .i64 a.n, .int .i64 a.m, .int .i64 a.r.k, .int .i64 a.r.pr, .int .i64 a.r.to, .int .i64 a.r.po, .int .i64 a.r.x.v, .int .i64 a.r.x.m, .int .u8 a.r.x.b0, .int .u8 a.r.x.b1, .int .u8 a.r.x.b2, .int .u8 a.r.x.i0, .int .u8 a.r.x.i1, .int .u8 a.r.x.i2, .slice A n c, .int .i64 a.f, .int .i64 a.p, .int .i64 a.t, .int .i64 a.q, .int .i64 a.z], .agg #[.int .i64 b.k, .int .i64 b.n, .int .i64 b.m, .int .i64 b.r.k, .int .i64 b.r.pr, .int .i64 b.r.to, .int .i64 b.r.po, .int .i64 b.r.x.v, .int .i64 b.r.x.m, .int .u8 b.r.x.b0, .int .u8 b.r.x.b1, .int .u8 b.r.x.b2, .int .u8 b.r.x.i0, .int .u8 b.r.x.i1, .int .u8 b.r.x.i2, .slice S m d, .int .i64 b.f, .int .i64 b.p, .int .i64 b.t, .int .i64 b.q, .int .i64 b.z]] w fun e w' => e = .returned (.bool (sameO a b)) ∧ Below w.heap.size w w' := by
  have hp := Kp.mk (show sameO a b = false by unfold sameO; rw [c0, c1, c2, c3']; rfl)
  have eQ : ∀ w, (Op.equalIn 10000 34 (.agg #[.int .i64 a.f, .int .i64 a.p, .int .i64 a.t, .int .i64 a.q, .int .i64 a.z]) (.agg #[.int .i64 b.f, .int .i64 b.p, .int .i64 b.t, .int .i64 b.q, .int .i64 b.z])).run Tryz.prog w = .ok (eqQB a.f a.p a.t a.q a.z b.f b.p b.t b.q b.z) w := fun w => eq_probe _ _ _ _ _ _ _ _ _ _ w
  have hb0 := below_two w (.cells #[.int .i64 a.k, .int .i64 a.n, .int .i64 a.m, .int .i64 a.r.k, .int .i64 a.r.pr, .int .i64 a.r.to, .int .i64 a.r.po, .int .i64 a.r.x.v, .int .i64 a.r.x.m, .int .u8 a.r.x.b0, .int .u8 a.r.x.b1, .int .u8 a.r.x.b2, .int .u8 a.r.x.i0, .int .u8 a.r.x.i1, .int .u8 a.r.x.i2, .slice A n c, .int .i64 a.f, .int .i64 a.p, .int .i64 a.t, .int .i64 a.q, .int .i64 a.z] 37) (.cells #[.int .i64 b.k, .int .i64 b.n, .int .i64 b.m, .int .i64 b.r.k, .int .i64 b.r.pr, .int .i64 b.r.to, .int .i64 b.r.po, .int .i64 b.r.x.v, .int .i64 b.r.x.m, .int .u8 b.r.x.b0, .int .u8 b.r.x.b1, .int .u8 b.r.x.b2, .int .u8 b.r.x.i0, .int .u8 b.r.x.i1, .int .u8 b.r.x.i2, .slice S m d, .int .i64 b.f, .int .i64 b.p, .int .i64 b.t, .int .i64 b.q, .int .i64 b.z] 37)
  have hv1 := (Vb.new 37 w (ocl a (.slice A n c))).alloc (.cells #[.int .i64 b.k, .int .i64 b.n, .int .i64 b.m, .int .i64 b.r.k, .int .i64 b.r.pr, .int .i64 b.r.to, .int .i64 b.r.po, .int .i64 b.r.x.v, .int .i64 b.r.x.m, .int .u8 b.r.x.b0, .int .u8 b.r.x.b1, .int .u8 b.r.x.b2, .int .u8 b.r.x.i0, .int .u8 b.r.x.i1, .int .u8 b.r.x.i2, .slice S m d, .int .i64 b.f, .int .i64 b.p, .int .i64 b.t, .int .i64 b.q, .int .i64 b.z] 37)
  have hv2 : Vb 37 ((w.alloc (.cells #[.int .i64 a.k, .int .i64 a.n, .int .i64 a.m, .int .i64 a.r.k, .int .i64 a.r.pr, .int .i64 a.r.to, .int .i64 a.r.po, .int .i64 a.r.x.v, .int .i64 a.r.x.m, .int .u8 a.r.x.b0, .int .u8 a.r.x.b1, .int .u8 a.r.x.b2, .int .u8 a.r.x.i0, .int .u8 a.r.x.i1, .int .u8 a.r.x.i2, .slice A n c, .int .i64 a.f, .int .i64 a.p, .int .i64 a.t, .int .i64 a.q, .int .i64 a.z] 37)).alloc (.cells #[.int .i64 b.k, .int .i64 b.n, .int .i64 b.m, .int .i64 b.r.k, .int .i64 b.r.pr, .int .i64 b.r.to, .int .i64 b.r.po, .int .i64 b.r.x.v, .int .i64 b.r.x.m, .int .u8 b.r.x.b0, .int .u8 b.r.x.b1, .int .u8 b.r.x.b2, .int .u8 b.r.x.i0, .int .u8 b.r.x.i1, .int .u8 b.r.x.i2, .slice S m d, .int .i64 b.f, .int .i64 b.p, .int .i64 b.t, .int .i64 b.q, .int .i64 b.z] 37)) (w.heap.size + 1) (ocl b (.slice S m d)) := by have := Vb.new 37 (w.alloc (.cells #[.int .i64 a.k, .int .i64 a.n, .int .i64 a.m, .int .i64 a.r.k, .int .i64 a.r.pr, .int .i64 a.r.to, .int .i64 a.r.po, .int .i64 a.r.x.v, .int .i64 a.r.x.m, .int .u8 a.r.x.b0, .int .u8 a.r.x.b1, .int .u8 a.r.x.b2, .int .u8 a.r.x.i0, .int .u8 a.r.x.i1, .int .u8 a.r.x.i2, .slice A n c, .int .i64 a.f, .int .i64 a.p, .int .i64 a.t, .int .i64 a.q, .int .i64 a.z] 37)) (ocl b (.slice S m d)); rw [alloc_size] at this; exact this
  have ha := h.below' hb0 hB
  have hb := h2.below' hb0 hB2
  have hz : w.heap.size < ((w.alloc (.cells #[.int .i64 a.k, .int .i64 a.n, .int .i64 a.m, .int .i64 a.r.k, .int .i64 a.r.pr, .int .i64 a.r.to, .int .i64 a.r.po, .int .i64 a.r.x.v, .int .i64 a.r.x.m, .int .u8 a.r.x.b0, .int .u8 a.r.x.b1, .int .u8 a.r.x.b2, .int .u8 a.r.x.i0, .int .u8 a.r.x.i1, .int .u8 a.r.x.i2, .slice A n c, .int .i64 a.f, .int .i64 a.p, .int .i64 a.t, .int .i64 a.q, .int .i64 a.z] 37)).alloc (.cells #[.int .i64 b.k, .int .i64 b.n, .int .i64 b.m, .int .i64 b.r.k, .int .i64 b.r.pr, .int .i64 b.r.to, .int .i64 b.r.po, .int .i64 b.r.x.v, .int .i64 b.r.x.m, .int .u8 b.r.x.b0, .int .u8 b.r.x.b1, .int .u8 b.r.x.b2, .int .u8 b.r.x.i0, .int .u8 b.r.x.i1, .int .u8 b.r.x.i2, .slice S m d, .int .i64 b.f, .int .i64 b.p, .int .i64 b.t, .int .i64 b.q, .int .i64 b.z] 37)).heap.size := by simp; omega
  change Vb _ ((w.alloc (.cells #[.int .i64 a.k, .int .i64 a.n, .int .i64 a.m, .int .i64 a.r.k, .int .i64 a.r.pr, .int .i64 a.r.to, .int .i64 a.r.po, .int .i64 a.r.x.v, .int .i64 a.r.x.m, .int .u8 a.r.x.b0, .int .u8 a.r.x.b1, .int .u8 a.r.x.b2, .int .u8 a.r.x.i0, .int .u8 a.r.x.i1, .int .u8 a.r.x.i2, .slice A n c, .int .i64 a.f, .int .i64 a.p, .int .i64 a.t, .int .i64 a.q, .int .i64 a.z] 37)).alloc (.cells #[.int .i64 b.k, .int .i64 b.n, .int .i64 b.m, .int .i64 b.r.k, .int .i64 b.r.pr, .int .i64 b.r.to, .int .i64 b.r.po, .int .i64 b.r.x.v, .int .i64 b.r.x.m, .int .u8 b.r.x.b0, .int .u8 b.r.x.b1, .int .u8 b.r.x.b2, .int .u8 b.r.x.i0, .int .u8 b.r.x.i1, .int .u8 b.r.x.i2, .slice S m d, .int .i64 b.f, .int .i64 b.p, .int .i64 b.t, .int .i64 b.q, .int .i64 b.z] 37)) _ _ at hv1
  go_enter Tryz.func14, Tryz.ntmps14
  go_upto_region 1 with fail
  generalize ((w.alloc (.cells #[.int .i64 a.k, .int .i64 a.n, .int .i64 a.m, .int .i64 a.r.k, .int .i64 a.r.pr, .int .i64 a.r.to, .int .i64 a.r.po, .int .i64 a.r.x.v, .int .i64 a.r.x.m, .int .u8 a.r.x.b0, .int .u8 a.r.x.b1, .int .u8 a.r.x.b2, .int .u8 a.r.x.i0, .int .u8 a.r.x.i1, .int .u8 a.r.x.i2, .slice A n c, .int .i64 a.f, .int .i64 a.p, .int .i64 a.t, .int .i64 a.q, .int .i64 a.z] 37)).alloc (.cells #[.int .i64 b.k, .int .i64 b.n, .int .i64 b.m, .int .i64 b.r.k, .int .i64 b.r.pr, .int .i64 b.r.to, .int .i64 b.r.po, .int .i64 b.r.x.v, .int .i64 b.r.x.m, .int .u8 b.r.x.b0, .int .u8 b.r.x.b1, .int .u8 b.r.x.b2, .int .u8 b.r.x.i0, .int .u8 b.r.x.i1, .int .u8 b.r.x.i2, .slice S m d, .int .i64 b.f, .int .i64 b.p, .int .i64 b.t, .int .i64 b.q, .int .i64 b.z] 37)) = w0 at *
  have d0 := hv1.ord.1
  have d1 := hv1.ord.2.1
  have d2 := hv1.ord.2.2.1
  have f0 := hv2.ord.1
  have f1 := hv2.ord.2.1
  have f2 := hv2.ord.2.2.1
  go_wp2_with (first | (refine wpList_load_want (vs := [.int .i64 a.f, .int .i64 a.p, .int .i64 a.t, .int .i64 a.q, .int .i64 a.z]) (by rfl) (.tmp 25) rfl rfl hv1 rfl agg_probe ?_) | (refine wpList_load_want (vs := [.int .i64 b.f, .int .i64 b.p, .int .i64 b.t, .int .i64 b.q, .int .i64 b.z]) (by rfl) (.tmp 27) rfl rfl hv2 rfl agg_probe ?_) | (refine wpList_load_want (vs := rcl a.r (.slice A n c)) (by rfl) (.tmp 32) rfl rfl hv1 rfl agg_rule ?_) | (refine wpList_load_want (vs := rcl b.r (.slice S m d)) (by rfl) (.tmp 34) rfl rfl hv2 rfl agg_rule ?_))
  rw [hp.out]
  go_ret
  exact ⟨rfl, hb0⟩
set_option maxRecDepth 100000 in
set_option maxHeartbeats 1600000 in
theorem oSame_4 {w : World} {B B2 n c m d : Nat} {A S : Option Addr} {a b : OrdV} (h : Ro w B A n c a.r.os) (hB : B ≤ w.heap.size) (h2 : Ro w B2 S m d b.r.os) (hB2 : B2 ≤ w.heap.size) (c0 : (a.k == b.k) = true) (c1 : (a.n == b.n) = true) (c2 : (a.m == b.m) = true) (c3 : (eqQB a.f a.p a.t a.q a.z b.f b.p b.t b.q b.z) = true) (c4' : (sameR a.r b.r) = false) : Calls Tryz.prog 14 #[.agg #[.int .i64 a.k, .int .i64 a.n, .int .i64 a.m, .int .i64 a.r.k, .int .i64 a.r.pr, .int .i64 a.r.to, .int .i64 a.r.po, .int .i64 a.r.x.v, .int .i64 a.r.x.m, .int .u8 a.r.x.b0, .int .u8 a.r.x.b1, .int .u8 a.r.x.b2, .int .u8 a.r.x.i0, .int .u8 a.r.x.i1, .int .u8 a.r.x.i2, .slice A n c, .int .i64 a.f, .int .i64 a.p, .int .i64 a.t, .int .i64 a.q, .int .i64 a.z], .agg #[.int .i64 b.k, .int .i64 b.n, .int .i64 b.m, .int .i64 b.r.k, .int .i64 b.r.pr, .int .i64 b.r.to, .int .i64 b.r.po, .int .i64 b.r.x.v, .int .i64 b.r.x.m, .int .u8 b.r.x.b0, .int .u8 b.r.x.b1, .int .u8 b.r.x.b2, .int .u8 b.r.x.i0, .int .u8 b.r.x.i1, .int .u8 b.r.x.i2, .slice S m d, .int .i64 b.f, .int .i64 b.p, .int .i64 b.t, .int .i64 b.q, .int .i64 b.z]] w fun e w' => e = .returned (.bool (sameO a b)) ∧ Below w.heap.size w w' := by
  have hp := Kp.mk (show sameO a b = false by unfold sameO; rw [c0, c1, c2, c3, c4']; rfl)
  have eQ : ∀ w, (Op.equalIn 10000 34 (.agg #[.int .i64 a.f, .int .i64 a.p, .int .i64 a.t, .int .i64 a.q, .int .i64 a.z]) (.agg #[.int .i64 b.f, .int .i64 b.p, .int .i64 b.t, .int .i64 b.q, .int .i64 b.z])).run Tryz.prog w = .ok (eqQB a.f a.p a.t a.q a.z b.f b.p b.t b.q b.z) w := fun w => eq_probe _ _ _ _ _ _ _ _ _ _ w
  have hb0 := below_two w (.cells #[.int .i64 a.k, .int .i64 a.n, .int .i64 a.m, .int .i64 a.r.k, .int .i64 a.r.pr, .int .i64 a.r.to, .int .i64 a.r.po, .int .i64 a.r.x.v, .int .i64 a.r.x.m, .int .u8 a.r.x.b0, .int .u8 a.r.x.b1, .int .u8 a.r.x.b2, .int .u8 a.r.x.i0, .int .u8 a.r.x.i1, .int .u8 a.r.x.i2, .slice A n c, .int .i64 a.f, .int .i64 a.p, .int .i64 a.t, .int .i64 a.q, .int .i64 a.z] 37) (.cells #[.int .i64 b.k, .int .i64 b.n, .int .i64 b.m, .int .i64 b.r.k, .int .i64 b.r.pr, .int .i64 b.r.to, .int .i64 b.r.po, .int .i64 b.r.x.v, .int .i64 b.r.x.m, .int .u8 b.r.x.b0, .int .u8 b.r.x.b1, .int .u8 b.r.x.b2, .int .u8 b.r.x.i0, .int .u8 b.r.x.i1, .int .u8 b.r.x.i2, .slice S m d, .int .i64 b.f, .int .i64 b.p, .int .i64 b.t, .int .i64 b.q, .int .i64 b.z] 37)
  have hv1 := (Vb.new 37 w (ocl a (.slice A n c))).alloc (.cells #[.int .i64 b.k, .int .i64 b.n, .int .i64 b.m, .int .i64 b.r.k, .int .i64 b.r.pr, .int .i64 b.r.to, .int .i64 b.r.po, .int .i64 b.r.x.v, .int .i64 b.r.x.m, .int .u8 b.r.x.b0, .int .u8 b.r.x.b1, .int .u8 b.r.x.b2, .int .u8 b.r.x.i0, .int .u8 b.r.x.i1, .int .u8 b.r.x.i2, .slice S m d, .int .i64 b.f, .int .i64 b.p, .int .i64 b.t, .int .i64 b.q, .int .i64 b.z] 37)
  have hv2 : Vb 37 ((w.alloc (.cells #[.int .i64 a.k, .int .i64 a.n, .int .i64 a.m, .int .i64 a.r.k, .int .i64 a.r.pr, .int .i64 a.r.to, .int .i64 a.r.po, .int .i64 a.r.x.v, .int .i64 a.r.x.m, .int .u8 a.r.x.b0, .int .u8 a.r.x.b1, .int .u8 a.r.x.b2, .int .u8 a.r.x.i0, .int .u8 a.r.x.i1, .int .u8 a.r.x.i2, .slice A n c, .int .i64 a.f, .int .i64 a.p, .int .i64 a.t, .int .i64 a.q, .int .i64 a.z] 37)).alloc (.cells #[.int .i64 b.k, .int .i64 b.n, .int .i64 b.m, .int .i64 b.r.k, .int .i64 b.r.pr, .int .i64 b.r.to, .int .i64 b.r.po, .int .i64 b.r.x.v, .int .i64 b.r.x.m, .int .u8 b.r.x.b0, .int .u8 b.r.x.b1, .int .u8 b.r.x.b2, .int .u8 b.r.x.i0, .int .u8 b.r.x.i1, .int .u8 b.r.x.i2, .slice S m d, .int .i64 b.f, .int .i64 b.p, .int .i64 b.t, .int .i64 b.q, .int .i64 b.z] 37)) (w.heap.size + 1) (ocl b (.slice S m d)) := by have := Vb.new 37 (w.alloc (.cells #[.int .i64 a.k, .int .i64 a.n, .int .i64 a.m, .int .i64 a.r.k, .int .i64 a.r.pr, .int .i64 a.r.to, .int .i64 a.r.po, .int .i64 a.r.x.v, .int .i64 a.r.x.m, .int .u8 a.r.x.b0, .int .u8 a.r.x.b1, .int .u8 a.r.x.b2, .int .u8 a.r.x.i0, .int .u8 a.r.x.i1, .int .u8 a.r.x.i2, .slice A n c, .int .i64 a.f, .int .i64 a.p, .int .i64 a.t, .int .i64 a.q, .int .i64 a.z] 37)) (ocl b (.slice S m d)); rw [alloc_size] at this; exact this
  have ha := h.below' hb0 hB
  have hb := h2.below' hb0 hB2
  have hz : w.heap.size < ((w.alloc (.cells #[.int .i64 a.k, .int .i64 a.n, .int .i64 a.m, .int .i64 a.r.k, .int .i64 a.r.pr, .int .i64 a.r.to, .int .i64 a.r.po, .int .i64 a.r.x.v, .int .i64 a.r.x.m, .int .u8 a.r.x.b0, .int .u8 a.r.x.b1, .int .u8 a.r.x.b2, .int .u8 a.r.x.i0, .int .u8 a.r.x.i1, .int .u8 a.r.x.i2, .slice A n c, .int .i64 a.f, .int .i64 a.p, .int .i64 a.t, .int .i64 a.q, .int .i64 a.z] 37)).alloc (.cells #[.int .i64 b.k, .int .i64 b.n, .int .i64 b.m, .int .i64 b.r.k, .int .i64 b.r.pr, .int .i64 b.r.to, .int .i64 b.r.po, .int .i64 b.r.x.v, .int .i64 b.r.x.m, .int .u8 b.r.x.b0, .int .u8 b.r.x.b1, .int .u8 b.r.x.b2, .int .u8 b.r.x.i0, .int .u8 b.r.x.i1, .int .u8 b.r.x.i2, .slice S m d, .int .i64 b.f, .int .i64 b.p, .int .i64 b.t, .int .i64 b.q, .int .i64 b.z] 37)).heap.size := by simp; omega
  change Vb _ ((w.alloc (.cells #[.int .i64 a.k, .int .i64 a.n, .int .i64 a.m, .int .i64 a.r.k, .int .i64 a.r.pr, .int .i64 a.r.to, .int .i64 a.r.po, .int .i64 a.r.x.v, .int .i64 a.r.x.m, .int .u8 a.r.x.b0, .int .u8 a.r.x.b1, .int .u8 a.r.x.b2, .int .u8 a.r.x.i0, .int .u8 a.r.x.i1, .int .u8 a.r.x.i2, .slice A n c, .int .i64 a.f, .int .i64 a.p, .int .i64 a.t, .int .i64 a.q, .int .i64 a.z] 37)).alloc (.cells #[.int .i64 b.k, .int .i64 b.n, .int .i64 b.m, .int .i64 b.r.k, .int .i64 b.r.pr, .int .i64 b.r.to, .int .i64 b.r.po, .int .i64 b.r.x.v, .int .i64 b.r.x.m, .int .u8 b.r.x.b0, .int .u8 b.r.x.b1, .int .u8 b.r.x.b2, .int .u8 b.r.x.i0, .int .u8 b.r.x.i1, .int .u8 b.r.x.i2, .slice S m d, .int .i64 b.f, .int .i64 b.p, .int .i64 b.t, .int .i64 b.q, .int .i64 b.z] 37)) _ _ at hv1
  go_enter Tryz.func14, Tryz.ntmps14
  go_upto_region 1 with fail
  generalize ((w.alloc (.cells #[.int .i64 a.k, .int .i64 a.n, .int .i64 a.m, .int .i64 a.r.k, .int .i64 a.r.pr, .int .i64 a.r.to, .int .i64 a.r.po, .int .i64 a.r.x.v, .int .i64 a.r.x.m, .int .u8 a.r.x.b0, .int .u8 a.r.x.b1, .int .u8 a.r.x.b2, .int .u8 a.r.x.i0, .int .u8 a.r.x.i1, .int .u8 a.r.x.i2, .slice A n c, .int .i64 a.f, .int .i64 a.p, .int .i64 a.t, .int .i64 a.q, .int .i64 a.z] 37)).alloc (.cells #[.int .i64 b.k, .int .i64 b.n, .int .i64 b.m, .int .i64 b.r.k, .int .i64 b.r.pr, .int .i64 b.r.to, .int .i64 b.r.po, .int .i64 b.r.x.v, .int .i64 b.r.x.m, .int .u8 b.r.x.b0, .int .u8 b.r.x.b1, .int .u8 b.r.x.b2, .int .u8 b.r.x.i0, .int .u8 b.r.x.i1, .int .u8 b.r.x.i2, .slice S m d, .int .i64 b.f, .int .i64 b.p, .int .i64 b.t, .int .i64 b.q, .int .i64 b.z] 37)) = w0 at *
  have d0 := hv1.ord.1
  have d1 := hv1.ord.2.1
  have d2 := hv1.ord.2.2.1
  have f0 := hv2.ord.1
  have f1 := hv2.ord.2.1
  have f2 := hv2.ord.2.2.1
  go_wp2_with (first | (refine wpList_load_want (vs := [.int .i64 a.f, .int .i64 a.p, .int .i64 a.t, .int .i64 a.q, .int .i64 a.z]) (by rfl) (.tmp 25) rfl rfl hv1 rfl agg_probe ?_) | (refine wpList_load_want (vs := [.int .i64 b.f, .int .i64 b.p, .int .i64 b.t, .int .i64 b.q, .int .i64 b.z]) (by rfl) (.tmp 27) rfl rfl hv2 rfl agg_probe ?_) | (refine wpList_load_want (vs := rcl a.r (.slice A n c)) (by rfl) (.tmp 32) rfl rfl hv1 rfl agg_rule ?_) | (refine wpList_load_want (vs := rcl b.r (.slice S m d)) (by rfl) (.tmp 34) rfl rfl hv2 rfl agg_rule ?_))
  refine (refSameRule_any ha (by omega) hb (by omega)).mono ?_
  rintro e w1 ⟨rfl, hb1⟩
  simp only [c4']
  go_wp2_with fail
  rw [hp.out]
  go_ret
  exact ⟨rfl, hb0.trans (hb1.mono (by omega))⟩
set_option maxRecDepth 100000 in
set_option maxHeartbeats 1600000 in
theorem oSame_5 {w : World} {B B2 n c m d : Nat} {A S : Option Addr} {a b : OrdV} (h : Ro w B A n c a.r.os) (hB : B ≤ w.heap.size) (h2 : Ro w B2 S m d b.r.os) (hB2 : B2 ≤ w.heap.size) (c0 : (a.k == b.k) = true) (c1 : (a.n == b.n) = true) (c2 : (a.m == b.m) = true) (c3 : (eqQB a.f a.p a.t a.q a.z b.f b.p b.t b.q b.z) = true) (c4 : (sameR a.r b.r) = true) : Calls Tryz.prog 14 #[.agg #[.int .i64 a.k, .int .i64 a.n, .int .i64 a.m, .int .i64 a.r.k, .int .i64 a.r.pr, .int .i64 a.r.to, .int .i64 a.r.po, .int .i64 a.r.x.v, .int .i64 a.r.x.m, .int .u8 a.r.x.b0, .int .u8 a.r.x.b1, .int .u8 a.r.x.b2, .int .u8 a.r.x.i0, .int .u8 a.r.x.i1, .int .u8 a.r.x.i2, .slice A n c, .int .i64 a.f, .int .i64 a.p, .int .i64 a.t, .int .i64 a.q, .int .i64 a.z], .agg #[.int .i64 b.k, .int .i64 b.n, .int .i64 b.m, .int .i64 b.r.k, .int .i64 b.r.pr, .int .i64 b.r.to, .int .i64 b.r.po, .int .i64 b.r.x.v, .int .i64 b.r.x.m, .int .u8 b.r.x.b0, .int .u8 b.r.x.b1, .int .u8 b.r.x.b2, .int .u8 b.r.x.i0, .int .u8 b.r.x.i1, .int .u8 b.r.x.i2, .slice S m d, .int .i64 b.f, .int .i64 b.p, .int .i64 b.t, .int .i64 b.q, .int .i64 b.z]] w fun e w' => e = .returned (.bool (sameO a b)) ∧ Below w.heap.size w w' := by
  have hp := Kp.mk (show sameO a b = true by unfold sameO; rw [c0, c1, c2, c3, c4]; rfl)
  have eQ : ∀ w, (Op.equalIn 10000 34 (.agg #[.int .i64 a.f, .int .i64 a.p, .int .i64 a.t, .int .i64 a.q, .int .i64 a.z]) (.agg #[.int .i64 b.f, .int .i64 b.p, .int .i64 b.t, .int .i64 b.q, .int .i64 b.z])).run Tryz.prog w = .ok (eqQB a.f a.p a.t a.q a.z b.f b.p b.t b.q b.z) w := fun w => eq_probe _ _ _ _ _ _ _ _ _ _ w
  have hb0 := below_two w (.cells #[.int .i64 a.k, .int .i64 a.n, .int .i64 a.m, .int .i64 a.r.k, .int .i64 a.r.pr, .int .i64 a.r.to, .int .i64 a.r.po, .int .i64 a.r.x.v, .int .i64 a.r.x.m, .int .u8 a.r.x.b0, .int .u8 a.r.x.b1, .int .u8 a.r.x.b2, .int .u8 a.r.x.i0, .int .u8 a.r.x.i1, .int .u8 a.r.x.i2, .slice A n c, .int .i64 a.f, .int .i64 a.p, .int .i64 a.t, .int .i64 a.q, .int .i64 a.z] 37) (.cells #[.int .i64 b.k, .int .i64 b.n, .int .i64 b.m, .int .i64 b.r.k, .int .i64 b.r.pr, .int .i64 b.r.to, .int .i64 b.r.po, .int .i64 b.r.x.v, .int .i64 b.r.x.m, .int .u8 b.r.x.b0, .int .u8 b.r.x.b1, .int .u8 b.r.x.b2, .int .u8 b.r.x.i0, .int .u8 b.r.x.i1, .int .u8 b.r.x.i2, .slice S m d, .int .i64 b.f, .int .i64 b.p, .int .i64 b.t, .int .i64 b.q, .int .i64 b.z] 37)
  have hv1 := (Vb.new 37 w (ocl a (.slice A n c))).alloc (.cells #[.int .i64 b.k, .int .i64 b.n, .int .i64 b.m, .int .i64 b.r.k, .int .i64 b.r.pr, .int .i64 b.r.to, .int .i64 b.r.po, .int .i64 b.r.x.v, .int .i64 b.r.x.m, .int .u8 b.r.x.b0, .int .u8 b.r.x.b1, .int .u8 b.r.x.b2, .int .u8 b.r.x.i0, .int .u8 b.r.x.i1, .int .u8 b.r.x.i2, .slice S m d, .int .i64 b.f, .int .i64 b.p, .int .i64 b.t, .int .i64 b.q, .int .i64 b.z] 37)
  have hv2 : Vb 37 ((w.alloc (.cells #[.int .i64 a.k, .int .i64 a.n, .int .i64 a.m, .int .i64 a.r.k, .int .i64 a.r.pr, .int .i64 a.r.to, .int .i64 a.r.po, .int .i64 a.r.x.v, .int .i64 a.r.x.m, .int .u8 a.r.x.b0, .int .u8 a.r.x.b1, .int .u8 a.r.x.b2, .int .u8 a.r.x.i0, .int .u8 a.r.x.i1, .int .u8 a.r.x.i2, .slice A n c, .int .i64 a.f, .int .i64 a.p, .int .i64 a.t, .int .i64 a.q, .int .i64 a.z] 37)).alloc (.cells #[.int .i64 b.k, .int .i64 b.n, .int .i64 b.m, .int .i64 b.r.k, .int .i64 b.r.pr, .int .i64 b.r.to, .int .i64 b.r.po, .int .i64 b.r.x.v, .int .i64 b.r.x.m, .int .u8 b.r.x.b0, .int .u8 b.r.x.b1, .int .u8 b.r.x.b2, .int .u8 b.r.x.i0, .int .u8 b.r.x.i1, .int .u8 b.r.x.i2, .slice S m d, .int .i64 b.f, .int .i64 b.p, .int .i64 b.t, .int .i64 b.q, .int .i64 b.z] 37)) (w.heap.size + 1) (ocl b (.slice S m d)) := by have := Vb.new 37 (w.alloc (.cells #[.int .i64 a.k, .int .i64 a.n, .int .i64 a.m, .int .i64 a.r.k, .int .i64 a.r.pr, .int .i64 a.r.to, .int .i64 a.r.po, .int .i64 a.r.x.v, .int .i64 a.r.x.m, .int .u8 a.r.x.b0, .int .u8 a.r.x.b1, .int .u8 a.r.x.b2, .int .u8 a.r.x.i0, .int .u8 a.r.x.i1, .int .u8 a.r.x.i2, .slice A n c, .int .i64 a.f, .int .i64 a.p, .int .i64 a.t, .int .i64 a.q, .int .i64 a.z] 37)) (ocl b (.slice S m d)); rw [alloc_size] at this; exact this
  have ha := h.below' hb0 hB
  have hb := h2.below' hb0 hB2
  have hz : w.heap.size < ((w.alloc (.cells #[.int .i64 a.k, .int .i64 a.n, .int .i64 a.m, .int .i64 a.r.k, .int .i64 a.r.pr, .int .i64 a.r.to, .int .i64 a.r.po, .int .i64 a.r.x.v, .int .i64 a.r.x.m, .int .u8 a.r.x.b0, .int .u8 a.r.x.b1, .int .u8 a.r.x.b2, .int .u8 a.r.x.i0, .int .u8 a.r.x.i1, .int .u8 a.r.x.i2, .slice A n c, .int .i64 a.f, .int .i64 a.p, .int .i64 a.t, .int .i64 a.q, .int .i64 a.z] 37)).alloc (.cells #[.int .i64 b.k, .int .i64 b.n, .int .i64 b.m, .int .i64 b.r.k, .int .i64 b.r.pr, .int .i64 b.r.to, .int .i64 b.r.po, .int .i64 b.r.x.v, .int .i64 b.r.x.m, .int .u8 b.r.x.b0, .int .u8 b.r.x.b1, .int .u8 b.r.x.b2, .int .u8 b.r.x.i0, .int .u8 b.r.x.i1, .int .u8 b.r.x.i2, .slice S m d, .int .i64 b.f, .int .i64 b.p, .int .i64 b.t, .int .i64 b.q, .int .i64 b.z] 37)).heap.size := by simp; omega
  change Vb _ ((w.alloc (.cells #[.int .i64 a.k, .int .i64 a.n, .int .i64 a.m, .int .i64 a.r.k, .int .i64 a.r.pr, .int .i64 a.r.to, .int .i64 a.r.po, .int .i64 a.r.x.v, .int .i64 a.r.x.m, .int .u8 a.r.x.b0, .int .u8 a.r.x.b1, .int .u8 a.r.x.b2, .int .u8 a.r.x.i0, .int .u8 a.r.x.i1, .int .u8 a.r.x.i2, .slice A n c, .int .i64 a.f, .int .i64 a.p, .int .i64 a.t, .int .i64 a.q, .int .i64 a.z] 37)).alloc (.cells #[.int .i64 b.k, .int .i64 b.n, .int .i64 b.m, .int .i64 b.r.k, .int .i64 b.r.pr, .int .i64 b.r.to, .int .i64 b.r.po, .int .i64 b.r.x.v, .int .i64 b.r.x.m, .int .u8 b.r.x.b0, .int .u8 b.r.x.b1, .int .u8 b.r.x.b2, .int .u8 b.r.x.i0, .int .u8 b.r.x.i1, .int .u8 b.r.x.i2, .slice S m d, .int .i64 b.f, .int .i64 b.p, .int .i64 b.t, .int .i64 b.q, .int .i64 b.z] 37)) _ _ at hv1
  go_enter Tryz.func14, Tryz.ntmps14
  go_upto_region 1 with fail
  generalize ((w.alloc (.cells #[.int .i64 a.k, .int .i64 a.n, .int .i64 a.m, .int .i64 a.r.k, .int .i64 a.r.pr, .int .i64 a.r.to, .int .i64 a.r.po, .int .i64 a.r.x.v, .int .i64 a.r.x.m, .int .u8 a.r.x.b0, .int .u8 a.r.x.b1, .int .u8 a.r.x.b2, .int .u8 a.r.x.i0, .int .u8 a.r.x.i1, .int .u8 a.r.x.i2, .slice A n c, .int .i64 a.f, .int .i64 a.p, .int .i64 a.t, .int .i64 a.q, .int .i64 a.z] 37)).alloc (.cells #[.int .i64 b.k, .int .i64 b.n, .int .i64 b.m, .int .i64 b.r.k, .int .i64 b.r.pr, .int .i64 b.r.to, .int .i64 b.r.po, .int .i64 b.r.x.v, .int .i64 b.r.x.m, .int .u8 b.r.x.b0, .int .u8 b.r.x.b1, .int .u8 b.r.x.b2, .int .u8 b.r.x.i0, .int .u8 b.r.x.i1, .int .u8 b.r.x.i2, .slice S m d, .int .i64 b.f, .int .i64 b.p, .int .i64 b.t, .int .i64 b.q, .int .i64 b.z] 37)) = w0 at *
  have d0 := hv1.ord.1
  have d1 := hv1.ord.2.1
  have d2 := hv1.ord.2.2.1
  have f0 := hv2.ord.1
  have f1 := hv2.ord.2.1
  have f2 := hv2.ord.2.2.1
  go_wp2_with (first | (refine wpList_load_want (vs := [.int .i64 a.f, .int .i64 a.p, .int .i64 a.t, .int .i64 a.q, .int .i64 a.z]) (by rfl) (.tmp 25) rfl rfl hv1 rfl agg_probe ?_) | (refine wpList_load_want (vs := [.int .i64 b.f, .int .i64 b.p, .int .i64 b.t, .int .i64 b.q, .int .i64 b.z]) (by rfl) (.tmp 27) rfl rfl hv2 rfl agg_probe ?_) | (refine wpList_load_want (vs := rcl a.r (.slice A n c)) (by rfl) (.tmp 32) rfl rfl hv1 rfl agg_rule ?_) | (refine wpList_load_want (vs := rcl b.r (.slice S m d)) (by rfl) (.tmp 34) rfl rfl hv2 rfl agg_rule ?_))
  refine (refSameRule_any ha (by omega) hb (by omega)).mono ?_
  rintro e w1 ⟨rfl, hb1⟩
  simp only [c4]
  go_wp2_with fail
  rw [hp.out]
  go_ret
  exact ⟨rfl, hb0.trans (hb1.mono (by omega))⟩
theorem refSame_any {w : World} {B B2 n c m d : Nat} {A S : Option Addr} {a b : OrdV} (h : Ro w B A n c a.r.os) (hB : B ≤ w.heap.size) (h2 : Ro w B2 S m d b.r.os) (hB2 : B2 ≤ w.heap.size) : Calls Tryz.prog 14 #[.agg #[.int .i64 a.k, .int .i64 a.n, .int .i64 a.m, .int .i64 a.r.k, .int .i64 a.r.pr, .int .i64 a.r.to, .int .i64 a.r.po, .int .i64 a.r.x.v, .int .i64 a.r.x.m, .int .u8 a.r.x.b0, .int .u8 a.r.x.b1, .int .u8 a.r.x.b2, .int .u8 a.r.x.i0, .int .u8 a.r.x.i1, .int .u8 a.r.x.i2, .slice A n c, .int .i64 a.f, .int .i64 a.p, .int .i64 a.t, .int .i64 a.q, .int .i64 a.z], .agg #[.int .i64 b.k, .int .i64 b.n, .int .i64 b.m, .int .i64 b.r.k, .int .i64 b.r.pr, .int .i64 b.r.to, .int .i64 b.r.po, .int .i64 b.r.x.v, .int .i64 b.r.x.m, .int .u8 b.r.x.b0, .int .u8 b.r.x.b1, .int .u8 b.r.x.b2, .int .u8 b.r.x.i0, .int .u8 b.r.x.i1, .int .u8 b.r.x.i2, .slice S m d, .int .i64 b.f, .int .i64 b.p, .int .i64 b.t, .int .i64 b.q, .int .i64 b.z]] w fun e w' => e = .returned (.bool (sameO a b)) ∧ Below w.heap.size w w' := by
  by_cases c0 : (a.k == b.k) = true
  rotate_left
  · exact oSame_0 h hB h2 hB2  (by simpa using c0)
  by_cases c1 : (a.n == b.n) = true
  rotate_left
  · exact oSame_1 h hB h2 hB2 c0 (by simpa using c1)
  by_cases c2 : (a.m == b.m) = true
  rotate_left
  · exact oSame_2 h hB h2 hB2 c0 c1 (by simpa using c2)
  by_cases c3 : (eqQB a.f a.p a.t a.q a.z b.f b.p b.t b.q b.z) = true
  rotate_left
  · exact oSame_3 h hB h2 hB2 c0 c1 c2 (by simpa using c3)
  by_cases c4 : (sameR a.r b.r) = true
  rotate_left
  · exact oSame_4 h hB h2 hB2 c0 c1 c2 c3 (by simpa using c4)
  exact oSame_5 h hB h2 hB2 c0 c1 c2 c3 c4
end Go.Proofs.YteambkehdbffmaaGreat.Oct
