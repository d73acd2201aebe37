/- Contracts of layer 6: Check, the document's. -/
import Derived.Test.YteambkehdbffmaaGreatOrdF
import Derived.Test.YteambkehdbffmaaGreatOrdC
namespace Go.Proofs.YteambkehdbffmaaGreat.Oct
open Go.RowKit
set_option linter.unusedVariables false
set_option linter.unusedSimpArgs false

theorem checkO_two {o : OrdV} (h : ¬ okOrd o) : checkO o = 2 := if_neg h
theorem checkO_nil {o : OrdV} (h : okOrd o) : checkO o = 0 := if_pos h

theorem okT_nil {o : OrdV} (h : o.k < 1 ∨ 9 < o.k) : ¬ okOrd o := fun hh => by have := okNM_k hh.1; omega
theorem okT_zero {o : OrdV} (h : okOrd o) (h2 : o.k ≠ 2) (h3 : o.k ≠ 3) : noneBo o.r = true := by
  have := h.2.1
  unfold okRu at this
  rw [if_neg (by omega)] at this
  exact (noneBo_iff _).2 this
theorem okT_probe {o : OrdV} (h : okOrd o) (h8 : o.k ≠ 8) : eqQB o.f o.p o.t o.q o.z 0 0 0 0 0 = true := by
  have := h.2.2
  unfold okPr at this
  rw [if_neg h8] at this
  exact (eqQB_zero _).2 this
theorem okT_1 {o : OrdV} (hk : o.k = 1) : okOrd o ↔ ((noneBo o.r) = true ∧ (eqQB o.f o.p o.t o.q o.z 0 0 0 0 0) = true ∧ (o.n == 0) = true ∧ (o.m == 0) = true) := by
  unfold okOrd okNM okRu okPr
  rw [if_neg (by omega), if_neg (by omega), noneBo_iff, eqQB_zero]
  simp only [within, beq_iff_eq, inB_true]
  constructor
  · rintro ⟨a, b, c⟩; exact ⟨b, c, by omega, by omega⟩
  · rintro ⟨b, c, d, e⟩; exact ⟨by omega, b, c⟩
theorem okT_2 {o : OrdV} (hk : o.k = 2) : okOrd o ↔ ((checkR o.r == 0) = true ∧ (eqQB o.f o.p o.t o.q o.z 0 0 0 0 0) = true ∧ (o.n == 0) = true ∧ (o.m == 0) = true) := by
  unfold okOrd okNM okRu okPr
  rw [if_pos (by omega), if_neg (by omega), beq_iff_eq, checkR_zero, eqQB_zero]
  simp only [within, beq_iff_eq, inB_true]
  constructor
  · rintro ⟨a, b, c⟩; exact ⟨b, c, by omega, by omega⟩
  · rintro ⟨b, c, d, e⟩; exact ⟨by omega, b, c⟩
theorem okT_3 {o : OrdV} (hk : o.k = 3) : okOrd o ↔ ((checkR o.r == 0) = true ∧ (eqQB o.f o.p o.t o.q o.z 0 0 0 0 0) = true ∧ (o.n == 0) = true ∧ (o.m == 0) = true) := by
  unfold okOrd okNM okRu okPr
  rw [if_pos (by omega), if_neg (by omega), beq_iff_eq, checkR_zero, eqQB_zero]
  simp only [within, beq_iff_eq, inB_true]
  constructor
  · rintro ⟨a, b, c⟩; exact ⟨b, c, by omega, by omega⟩
  · rintro ⟨b, c, d, e⟩; exact ⟨by omega, b, c⟩
theorem okT_4 {o : OrdV} (hk : o.k = 4) : okOrd o ↔ ((noneBo o.r) = true ∧ (eqQB o.f o.p o.t o.q o.z 0 0 0 0 0) = true ∧ (inB o.n 0 200) = true ∧ (o.m == 0) = true) := by
  unfold okOrd okNM okRu okPr
  rw [if_neg (by omega), if_neg (by omega), noneBo_iff, eqQB_zero]
  simp only [within, beq_iff_eq, inB_true]
  constructor
  · rintro ⟨a, b, c⟩; exact ⟨b, c, by omega, by omega⟩
  · rintro ⟨b, c, d, e⟩; exact ⟨by omega, b, c⟩
theorem okT_5 {o : OrdV} (hk : o.k = 5) : okOrd o ↔ ((noneBo o.r) = true ∧ (eqQB o.f o.p o.t o.q o.z 0 0 0 0 0) = true ∧ (inB o.n 1 4) = true ∧ (inB o.m 0 65535) = true) := by
  unfold okOrd okNM okRu okPr
  rw [if_neg (by omega), if_neg (by omega), noneBo_iff, eqQB_zero]
  simp only [within, beq_iff_eq, inB_true]
  constructor
  · rintro ⟨a, b, c⟩; exact ⟨b, c, by omega, by omega⟩
  · rintro ⟨b, c, d, e⟩; exact ⟨by omega, b, c⟩
theorem okT_6 {o : OrdV} (hk : o.k = 6) : okOrd o ↔ ((noneBo o.r) = true ∧ (eqQB o.f o.p o.t o.q o.z 0 0 0 0 0) = true ∧ (inB o.n 0 4294967295) = true ∧ (o.m == 0) = true) := by
  unfold okOrd okNM okRu okPr
  rw [if_neg (by omega), if_neg (by omega), noneBo_iff, eqQB_zero]
  simp only [within, beq_iff_eq, inB_true]
  constructor
  · rintro ⟨a, b, c⟩; exact ⟨b, c, by omega, by omega⟩
  · rintro ⟨b, c, d, e⟩; exact ⟨by omega, b, c⟩
theorem okT_7 {o : OrdV} (hk : o.k = 7) : okOrd o ↔ ((noneBo o.r) = true ∧ (eqQB o.f o.p o.t o.q o.z 0 0 0 0 0) = true ∧ (inB o.n 0 4294967295) = true ∧ (inB o.m 0 65535) = true) := by
  unfold okOrd okNM okRu okPr
  rw [if_neg (by omega), if_neg (by omega), noneBo_iff, eqQB_zero]
  simp only [within, beq_iff_eq, inB_true]
  constructor
  · rintro ⟨a, b, c⟩; exact ⟨b, c, by omega, by omega⟩
  · rintro ⟨b, c, d, e⟩; exact ⟨by omega, b, c⟩
theorem okT_8 {o : OrdV} (hk : o.k = 8) : okOrd o ↔ ((noneBo o.r) = true ∧ (o.n == 0) = true ∧ (o.m == 0) = true ∧ (checkQ o.f o.p o.t o.q o.z == 0) = true ∧ (decide (0 < o.t)) = true) := by
  unfold okOrd okNM okRu okPr
  rw [if_neg (by omega), if_pos (by omega), noneBo_iff]
  simp only [beq_iff_eq, checkQ_zero, decide_eq_true_eq]
  simp only [within, beq_iff_eq, inB_true]
  constructor
  · rintro ⟨a, b, c, d⟩; exact ⟨b, by omega, by omega, c, by unfold okQ at c; omega⟩
  · rintro ⟨b, c, d, e, f⟩; exact ⟨by omega, b, e, by omega⟩
theorem okT_9 {o : OrdV} (hk : o.k = 9) : okOrd o ↔ ((noneBo o.r) = true ∧ (eqQB o.f o.p o.t o.q o.z 0 0 0 0 0) = true ∧ (inB o.n 1 4) = true ∧ (inB o.m 0 1) = true) := by
  unfold okOrd okNM okRu okPr
  rw [if_neg (by omega), if_neg (by omega), noneBo_iff, eqQB_zero]
  simp only [within, beq_iff_eq, inB_true]
  constructor
  · rintro ⟨a, b, c⟩; exact ⟨b, c, by omega, by omega⟩
  · rintro ⟨b, c, d, e⟩; exact ⟨by omega, b, c⟩
set_option maxRecDepth 100000 in
set_option maxHeartbeats 1600000 in
theorem rc_none {w : World} {B n c : Nat} {A : Option Addr} (o : OrdV) (h : Ro w B A n c o.r.os) (hB : B ≤ w.heap.size) (h2 : o.k ≠ 2) (h3 : o.k ≠ 3) (c0' : noneBo o.r = false) : Calls Tryz.prog 12 #[.agg #[.int .i64 o.k, .int .i64 o.n, .int .i64 o.m, .int .i64 o.r.k, .int .i64 o.r.pr, .int .i64 o.r.to, .int .i64 o.r.po, .int .i64 o.r.x.v, .int .i64 o.r.x.m, .int .u8 o.r.x.b0, .int .u8 o.r.x.b1, .int .u8 o.r.x.b2, .int .u8 o.r.x.i0, .int .u8 o.r.x.i1, .int .u8 o.r.x.i2, .slice A n c, .int .i64 o.f, .int .i64 o.p, .int .i64 o.t, .int .i64 o.q, .int .i64 o.z]] w fun e w' => e = .returned (.int .i64 (checkO o)) ∧ Below w.heap.size w w' := by
  have hp := Kp.mk (show checkO o = 2 by exact checkO_two (fun hh => by have := okT_zero hh h2 h3; rw [c0'] at this; simp at this))
  have eQ : ∀ w, (Op.equalIn 10000 34 (.agg #[.int .i64 o.f, .int .i64 o.p, .int .i64 o.t, .int .i64 o.q, .int .i64 o.z]) (.agg #[.int .i64 0, .int .i64 0, .int .i64 0, .int .i64 0, .int .i64 0])).run Tryz.prog w = .ok (eqQB o.f o.p o.t o.q o.z 0 0 0 0 0) w := fun w => eq_probe o.f o.p o.t o.q o.z 0 0 0 0 0 w
  have k2 : (o.k == 2) = false := beq_eq_false_iff_ne.2 (by omega)
  have k3 : (o.k == 3) = false := beq_eq_false_iff_ne.2 (by omega)
  clear h2 h3
  have hba := below_alloc w (.cells #[.int .i64 o.k, .int .i64 o.n, .int .i64 o.m, .int .i64 o.r.k, .int .i64 o.r.pr, .int .i64 o.r.to, .int .i64 o.r.po, .int .i64 o.r.x.v, .int .i64 o.r.x.m, .int .u8 o.r.x.b0, .int .u8 o.r.x.b1, .int .u8 o.r.x.b2, .int .u8 o.r.x.i0, .int .u8 o.r.x.i1, .int .u8 o.r.x.i2, .slice A n c, .int .i64 o.f, .int .i64 o.p, .int .i64 o.t, .int .i64 o.q, .int .i64 o.z] 37)
  have hza : (w.alloc (.cells #[.int .i64 o.k, .int .i64 o.n, .int .i64 o.m, .int .i64 o.r.k, .int .i64 o.r.pr, .int .i64 o.r.to, .int .i64 o.r.po, .int .i64 o.r.x.v, .int .i64 o.r.x.m, .int .u8 o.r.x.b0, .int .u8 o.r.x.b1, .int .u8 o.r.x.b2, .int .u8 o.r.x.i0, .int .u8 o.r.x.i1, .int .u8 o.r.x.i2, .slice A n c, .int .i64 o.f, .int .i64 o.p, .int .i64 o.t, .int .i64 o.q, .int .i64 o.z] 37)).heap.size = w.heap.size + 1 := by simp
  have hxa : Vb 37 (w.alloc (.cells #[.int .i64 o.k, .int .i64 o.n, .int .i64 o.m, .int .i64 o.r.k, .int .i64 o.r.pr, .int .i64 o.r.to, .int .i64 o.r.po, .int .i64 o.r.x.v, .int .i64 o.r.x.m, .int .u8 o.r.x.b0, .int .u8 o.r.x.b1, .int .u8 o.r.x.b2, .int .u8 o.r.x.i0, .int .u8 o.r.x.i1, .int .u8 o.r.x.i2, .slice A n c, .int .i64 o.f, .int .i64 o.p, .int .i64 o.t, .int .i64 o.q, .int .i64 o.z] 37)) w.heap.size (ocl o (.slice A n c)) := Vb.new 37 w (ocl o (.slice A n c))
  have hA := h.below' hba hB
  have HK := Kp.mk trivial
  go_enter Tryz.func12, Tryz.ntmps12
  go_upto_region 1 with fail
  generalize (w.alloc (.cells #[.int .i64 o.k, .int .i64 o.n, .int .i64 o.m, .int .i64 o.r.k, .int .i64 o.r.pr, .int .i64 o.r.to, .int .i64 o.r.po, .int .i64 o.r.x.v, .int .i64 o.r.x.m, .int .u8 o.r.x.b0, .int .u8 o.r.x.b1, .int .u8 o.r.x.b2, .int .u8 o.r.x.i0, .int .u8 o.r.x.i1, .int .u8 o.r.x.i2, .slice A n c, .int .i64 o.f, .int .i64 o.p, .int .i64 o.t, .int .i64 o.q, .int .i64 o.z] 37)) = wa at *
  obtain ⟨d0, d1, d2, d3, d4, d5, d6, d7, d8, d9, d10, d11, d12, d13, d14, d15, d16, d17, d18, d19, d20⟩ := hxa.ord
  go_wp2_with fail
  refine (refZero_any o.r hA (by omega)).mono ?_
  rintro e w1 ⟨rfl, hb1⟩
  simp only [c0']
  have hx1 := hxa.below hb1 (by omega)
  have hT1 := hba.trans (hb1.mono (by omega))
  have hz1 := hb1.size
  clear d0 d1 d2 d3 d4 d5 d6 d7 d8 d9 d10 d11 d12 d13 d14 d15 d16 d17 d18 d19 d20 hxa hb1
  obtain ⟨d0, d1, d2, d3, d4, d5, d6, d7, d8, d9, d10, d11, d12, d13, d14, d15, d16, d17, d18, d19, d20⟩ := hx1.ord
  go_wp2_with (first | (go_at_call 38; refine (refIn_any _ _ _ _).mono ?_; rintro e w' ⟨rfl, rfl⟩; simp only [c0']) | (go_at_call 37; refine (refIs_any _ _).mono ?_; rintro e w' ⟨rfl, rfl⟩))
  rw [hp.out]
  go_ret
  exact ⟨rfl, hT1⟩
set_option maxRecDepth 100000 in
set_option maxHeartbeats 1600000 in
theorem rc_probe {w : World} {B n c : Nat} {A : Option Addr} (o : OrdV) (h : Ro w B A n c o.r.os) (hB : B ≤ w.heap.size) (h2 : o.k ≠ 2) (h3 : o.k ≠ 3) (h8 : o.k ≠ 8) (c0 : noneBo o.r = true) (c1' : eqQB o.f o.p o.t o.q o.z 0 0 0 0 0 = false) : Calls Tryz.prog 12 #[.agg #[.int .i64 o.k, .int .i64 o.n, .int .i64 o.m, .int .i64 o.r.k, .int .i64 o.r.pr, .int .i64 o.r.to, .int .i64 o.r.po, .int .i64 o.r.x.v, .int .i64 o.r.x.m, .int .u8 o.r.x.b0, .int .u8 o.r.x.b1, .int .u8 o.r.x.b2, .int .u8 o.r.x.i0, .int .u8 o.r.x.i1, .int .u8 o.r.x.i2, .slice A n c, .int .i64 o.f, .int .i64 o.p, .int .i64 o.t, .int .i64 o.q, .int .i64 o.z]] w fun e w' => e = .returned (.int .i64 (checkO o)) ∧ Below w.heap.size w w' := by
  have hp := Kp.mk (show checkO o = 2 by exact checkO_two (fun hh => by have := okT_probe hh h8; rw [c1'] at this; simp at this))
  have eQ : ∀ w, (Op.equalIn 10000 34 (.agg #[.int .i64 o.f, .int .i64 o.p, .int .i64 o.t, .int .i64 o.q, .int .i64 o.z]) (.agg #[.int .i64 0, .int .i64 0, .int .i64 0, .int .i64 0, .int .i64 0])).run Tryz.prog w = .ok (eqQB o.f o.p o.t o.q o.z 0 0 0 0 0) w := fun w => eq_probe o.f o.p o.t o.q o.z 0 0 0 0 0 w
  have k2 : (o.k == 2) = false := beq_eq_false_iff_ne.2 (by omega)
  have k3 : (o.k == 3) = false := beq_eq_false_iff_ne.2 (by omega)
  have k8 : (o.k != 8) = true := by rw [bne, beq_eq_false_iff_ne.2 h8]; rfl
  clear h2 h3 h8
  have hba := below_alloc w (.cells #[.int .i64 o.k, .int .i64 o.n, .int .i64 o.m, .int .i64 o.r.k, .int .i64 o.r.pr, .int .i64 o.r.to, .int .i64 o.r.po, .int .i64 o.r.x.v, .int .i64 o.r.x.m, .int .u8 o.r.x.b0, .int .u8 o.r.x.b1, .int .u8 o.r.x.b2, .int .u8 o.r.x.i0, .int .u8 o.r.x.i1, .int .u8 o.r.x.i2, .slice A n c, .int .i64 o.f, .int .i64 o.p, .int .i64 o.t, .int .i64 o.q, .int .i64 o.z] 37)
  have hza : (w.alloc (.cells #[.int .i64 o.k, .int .i64 o.n, .int .i64 o.m, .int .i64 o.r.k, .int .i64 o.r.pr, .int .i64 o.r.to, .int .i64 o.r.po, .int .i64 o.r.x.v, .int .i64 o.r.x.m, .int .u8 o.r.x.b0, .int .u8 o.r.x.b1, .int .u8 o.r.x.b2, .int .u8 o.r.x.i0, .int .u8 o.r.x.i1, .int .u8 o.r.x.i2, .slice A n c, .int .i64 o.f, .int .i64 o.p, .int .i64 o.t, .int .i64 o.q, .int .i64 o.z] 37)).heap.size = w.heap.size + 1 := by simp
  have hxa : Vb 37 (w.alloc (.cells #[.int .i64 o.k, .int .i64 o.n, .int .i64 o.m, .int .i64 o.r.k, .int .i64 o.r.pr, .int .i64 o.r.to, .int .i64 o.r.po, .int .i64 o.r.x.v, .int .i64 o.r.x.m, .int .u8 o.r.x.b0, .int .u8 o.r.x.b1, .int .u8 o.r.x.b2, .int .u8 o.r.x.i0, .int .u8 o.r.x.i1, .int .u8 o.r.x.i2, .slice A n c, .int .i64 o.f, .int .i64 o.p, .int .i64 o.t, .int .i64 o.q, .int .i64 o.z] 37)) w.heap.size (ocl o (.slice A n c)) := Vb.new 37 w (ocl o (.slice A n c))
  have hA := h.below' hba hB
  have HK := Kp.mk trivial
  go_enter Tryz.func12, Tryz.ntmps12
  go_upto_region 1 with fail
  generalize (w.alloc (.cells #[.int .i64 o.k, .int .i64 o.n, .int .i64 o.m, .int .i64 o.r.k, .int .i64 o.r.pr, .int .i64 o.r.to, .int .i64 o.r.po, .int .i64 o.r.x.v, .int .i64 o.r.x.m, .int .u8 o.r.x.b0, .int .u8 o.r.x.b1, .int .u8 o.r.x.b2, .int .u8 o.r.x.i0, .int .u8 o.r.x.i1, .int .u8 o.r.x.i2, .slice A n c, .int .i64 o.f, .int .i64 o.p, .int .i64 o.t, .int .i64 o.q, .int .i64 o.z] 37)) = wa at *
  obtain ⟨d0, d1, d2, d3, d4, d5, d6, d7, d8, d9, d10, d11, d12, d13, d14, d15, d16, d17, d18, d19, d20⟩ := hxa.ord
  go_wp2_with fail
  refine (refZero_any o.r hA (by omega)).mono ?_
  rintro e w1 ⟨rfl, hb1⟩
  simp only [c0, c1']
  have hx1 := hxa.below hb1 (by omega)
  have hT1 := hba.trans (hb1.mono (by omega))
  have hz1 := hb1.size
  clear d0 d1 d2 d3 d4 d5 d6 d7 d8 d9 d10 d11 d12 d13 d14 d15 d16 d17 d18 d19 d20 hxa hb1
  obtain ⟨d0, d1, d2, d3, d4, d5, d6, d7, d8, d9, d10, d11, d12, d13, d14, d15, d16, d17, d18, d19, d20⟩ := hx1.ord
  go_wp2_with (first | (go_at_call 38; refine (refIn_any _ _ _ _).mono ?_; rintro e w' ⟨rfl, rfl⟩; simp only [c0, c1']) | (go_at_call 37; refine (refIs_any _ _).mono ?_; rintro e w' ⟨rfl, rfl⟩))
  rw [hp.out]
  go_ret
  exact ⟨rfl, hT1⟩
set_option maxRecDepth 100000 in
set_option maxHeartbeats 1600000 in
theorem rc_other {w : World} {B n c : Nat} {A : Option Addr} (o : OrdV) (h : Ro w B A n c o.r.os) (hB : B ≤ w.heap.size) (ho : o.k < 1 ∨ 9 < o.k) (c0 : noneBo o.r = true) (c1 : eqQB o.f o.p o.t o.q o.z 0 0 0 0 0 = true) : Calls Tryz.prog 12 #[.agg #[.int .i64 o.k, .int .i64 o.n, .int .i64 o.m, .int .i64 o.r.k, .int .i64 o.r.pr, .int .i64 o.r.to, .int .i64 o.r.po, .int .i64 o.r.x.v, .int .i64 o.r.x.m, .int .u8 o.r.x.b0, .int .u8 o.r.x.b1, .int .u8 o.r.x.b2, .int .u8 o.r.x.i0, .int .u8 o.r.x.i1, .int .u8 o.r.x.i2, .slice A n c, .int .i64 o.f, .int .i64 o.p, .int .i64 o.t, .int .i64 o.q, .int .i64 o.z]] w fun e w' => e = .returned (.int .i64 (checkO o)) ∧ Below w.heap.size w w' := by
  have hp := Kp.mk (show checkO o = 2 by exact checkO_two (okT_nil ho))
  have eQ : ∀ w, (Op.equalIn 10000 34 (.agg #[.int .i64 o.f, .int .i64 o.p, .int .i64 o.t, .int .i64 o.q, .int .i64 o.z]) (.agg #[.int .i64 0, .int .i64 0, .int .i64 0, .int .i64 0, .int .i64 0])).run Tryz.prog w = .ok (eqQB o.f o.p o.t o.q o.z 0 0 0 0 0) w := fun w => eq_probe o.f o.p o.t o.q o.z 0 0 0 0 0 w
  have k1 : (o.k == 1) = false := beq_eq_false_iff_ne.2 (by omega)
  have k2 : (o.k == 2) = false := beq_eq_false_iff_ne.2 (by omega)
  have k3 : (o.k == 3) = false := beq_eq_false_iff_ne.2 (by omega)
  have k4 : (o.k == 4) = false := beq_eq_false_iff_ne.2 (by omega)
  have k5 : (o.k == 5) = false := beq_eq_false_iff_ne.2 (by omega)
  have k6 : (o.k == 6) = false := beq_eq_false_iff_ne.2 (by omega)
  have k7 : (o.k == 7) = false := beq_eq_false_iff_ne.2 (by omega)
  have k8 : (o.k == 8) = false := beq_eq_false_iff_ne.2 (by omega)
  have k9 : (o.k == 9) = false := beq_eq_false_iff_ne.2 (by omega)
  have k8n : (o.k != 8) = true := by rw [bne, k8]; rfl
  clear ho
  have hba := below_alloc w (.cells #[.int .i64 o.k, .int .i64 o.n, .int .i64 o.m, .int .i64 o.r.k, .int .i64 o.r.pr, .int .i64 o.r.to, .int .i64 o.r.po, .int .i64 o.r.x.v, .int .i64 o.r.x.m, .int .u8 o.r.x.b0, .int .u8 o.r.x.b1, .int .u8 o.r.x.b2, .int .u8 o.r.x.i0, .int .u8 o.r.x.i1, .int .u8 o.r.x.i2, .slice A n c, .int .i64 o.f, .int .i64 o.p, .int .i64 o.t, .int .i64 o.q, .int .i64 o.z] 37)
  have hza : (w.alloc (.cells #[.int .i64 o.k, .int .i64 o.n, .int .i64 o.m, .int .i64 o.r.k, .int .i64 o.r.pr, .int .i64 o.r.to, .int .i64 o.r.po, .int .i64 o.r.x.v, .int .i64 o.r.x.m, .int .u8 o.r.x.b0, .int .u8 o.r.x.b1, .int .u8 o.r.x.b2, .int .u8 o.r.x.i0, .int .u8 o.r.x.i1, .int .u8 o.r.x.i2, .slice A n c, .int .i64 o.f, .int .i64 o.p, .int .i64 o.t, .int .i64 o.q, .int .i64 o.z] 37)).heap.size = w.heap.size + 1 := by simp
  have hxa : Vb 37 (w.alloc (.cells #[.int .i64 o.k, .int .i64 o.n, .int .i64 o.m, .int .i64 o.r.k, .int .i64 o.r.pr, .int .i64 o.r.to, .int .i64 o.r.po, .int .i64 o.r.x.v, .int .i64 o.r.x.m, .int .u8 o.r.x.b0, .int .u8 o.r.x.b1, .int .u8 o.r.x.b2, .int .u8 o.r.x.i0, .int .u8 o.r.x.i1, .int .u8 o.r.x.i2, .slice A n c, .int .i64 o.f, .int .i64 o.p, .int .i64 o.t, .int .i64 o.q, .int .i64 o.z] 37)) w.heap.size (ocl o (.slice A n c)) := Vb.new 37 w (ocl o (.slice A n c))
  have hA := h.below' hba hB
  have HK := Kp.mk trivial
  go_enter Tryz.func12, Tryz.ntmps12
  go_upto_region 1 with fail
  generalize (w.alloc (.cells #[.int .i64 o.k, .int .i64 o.n, .int .i64 o.m, .int .i64 o.r.k, .int .i64 o.r.pr, .int .i64 o.r.to, .int .i64 o.r.po, .int .i64 o.r.x.v, .int .i64 o.r.x.m, .int .u8 o.r.x.b0, .int .u8 o.r.x.b1, .int .u8 o.r.x.b2, .int .u8 o.r.x.i0, .int .u8 o.r.x.i1, .int .u8 o.r.x.i2, .slice A n c, .int .i64 o.f, .int .i64 o.p, .int .i64 o.t, .int .i64 o.q, .int .i64 o.z] 37)) = wa at *
  obtain ⟨d0, d1, d2, d3, d4, d5, d6, d7, d8, d9, d10, d11, d12, d13, d14, d15, d16, d17, d18, d19, d20⟩ := hxa.ord
  go_wp2_with fail
  refine (refZero_any o.r hA (by omega)).mono ?_
  rintro e w1 ⟨rfl, hb1⟩
  simp only [c0, c1]
  have hx1 := hxa.below hb1 (by omega)
  have hT1 := hba.trans (hb1.mono (by omega))
  have hz1 := hb1.size
  clear d0 d1 d2 d3 d4 d5 d6 d7 d8 d9 d10 d11 d12 d13 d14 d15 d16 d17 d18 d19 d20 hxa hb1
  obtain ⟨d0, d1, d2, d3, d4, d5, d6, d7, d8, d9, d10, d11, d12, d13, d14, d15, d16, d17, d18, d19, d20⟩ := hx1.ord
  go_wp2_with (first | (go_at_call 38; refine (refIn_any _ _ _ _).mono ?_; rintro e w' ⟨rfl, rfl⟩; simp only [c0, c1]) | (go_at_call 37; refine (refIs_any _ _).mono ?_; rintro e w' ⟨rfl, rfl⟩))
  rw [hp.out]
  go_ret
  exact ⟨rfl, hT1⟩
set_option maxRecDepth 100000 in
set_option maxHeartbeats 1600000 in
theorem rc_1_2 {w : World} {B n c : Nat} {A : Option Addr} (o : OrdV) (h : Ro w B A n c o.r.os) (hB : B ≤ w.heap.size) (hk : o.k = 1) (c0 : (noneBo o.r) = true) (c1 : (eqQB o.f o.p o.t o.q o.z 0 0 0 0 0) = true) (c2' : (o.n == 0) = false) : Calls Tryz.prog 12 #[.agg #[.int .i64 o.k, .int .i64 o.n, .int .i64 o.m, .int .i64 o.r.k, .int .i64 o.r.pr, .int .i64 o.r.to, .int .i64 o.r.po, .int .i64 o.r.x.v, .int .i64 o.r.x.m, .int .u8 o.r.x.b0, .int .u8 o.r.x.b1, .int .u8 o.r.x.b2, .int .u8 o.r.x.i0, .int .u8 o.r.x.i1, .int .u8 o.r.x.i2, .slice A n c, .int .i64 o.f, .int .i64 o.p, .int .i64 o.t, .int .i64 o.q, .int .i64 o.z]] w fun e w' => e = .returned (.int .i64 (checkO o)) ∧ Below w.heap.size w w' := by
  have hp := Kp.mk (show checkO o = 2 by exact checkO_two (fun hh => by have hh := (okT_1 hk).1 hh; obtain ⟨e0, e1, e2, e3⟩ := hh; rw [c2'] at e2; simp at e2))
  have eQ : ∀ w, (Op.equalIn 10000 34 (.agg #[.int .i64 o.f, .int .i64 o.p, .int .i64 o.t, .int .i64 o.q, .int .i64 o.z]) (.agg #[.int .i64 0, .int .i64 0, .int .i64 0, .int .i64 0, .int .i64 0])).run Tryz.prog w = .ok (eqQB o.f o.p o.t o.q o.z 0 0 0 0 0) w := fun w => eq_probe o.f o.p o.t o.q o.z 0 0 0 0 0 w
  have hba := below_alloc w (.cells #[.int .i64 o.k, .int .i64 o.n, .int .i64 o.m, .int .i64 o.r.k, .int .i64 o.r.pr, .int .i64 o.r.to, .int .i64 o.r.po, .int .i64 o.r.x.v, .int .i64 o.r.x.m, .int .u8 o.r.x.b0, .int .u8 o.r.x.b1, .int .u8 o.r.x.b2, .int .u8 o.r.x.i0, .int .u8 o.r.x.i1, .int .u8 o.r.x.i2, .slice A n c, .int .i64 o.f, .int .i64 o.p, .int .i64 o.t, .int .i64 o.q, .int .i64 o.z] 37)
  have hza : (w.alloc (.cells #[.int .i64 o.k, .int .i64 o.n, .int .i64 o.m, .int .i64 o.r.k, .int .i64 o.r.pr, .int .i64 o.r.to, .int .i64 o.r.po, .int .i64 o.r.x.v, .int .i64 o.r.x.m, .int .u8 o.r.x.b0, .int .u8 o.r.x.b1, .int .u8 o.r.x.b2, .int .u8 o.r.x.i0, .int .u8 o.r.x.i1, .int .u8 o.r.x.i2, .slice A n c, .int .i64 o.f, .int .i64 o.p, .int .i64 o.t, .int .i64 o.q, .int .i64 o.z] 37)).heap.size = w.heap.size + 1 := by simp
  have hxa : Vb 37 (w.alloc (.cells #[.int .i64 o.k, .int .i64 o.n, .int .i64 o.m, .int .i64 o.r.k, .int .i64 o.r.pr, .int .i64 o.r.to, .int .i64 o.r.po, .int .i64 o.r.x.v, .int .i64 o.r.x.m, .int .u8 o.r.x.b0, .int .u8 o.r.x.b1, .int .u8 o.r.x.b2, .int .u8 o.r.x.i0, .int .u8 o.r.x.i1, .int .u8 o.r.x.i2, .slice A n c, .int .i64 o.f, .int .i64 o.p, .int .i64 o.t, .int .i64 o.q, .int .i64 o.z] 37)) w.heap.size (ocl o (.slice A n c)) := Vb.new 37 w (ocl o (.slice A n c))
  have hA := h.below' hba hB
  have HK := Kp.mk hk
  clear hk
  go_enter Tryz.func12, Tryz.ntmps12
  go_upto_region 1 with fail
  generalize (w.alloc (.cells #[.int .i64 o.k, .int .i64 o.n, .int .i64 o.m, .int .i64 o.r.k, .int .i64 o.r.pr, .int .i64 o.r.to, .int .i64 o.r.po, .int .i64 o.r.x.v, .int .i64 o.r.x.m, .int .u8 o.r.x.b0, .int .u8 o.r.x.b1, .int .u8 o.r.x.b2, .int .u8 o.r.x.i0, .int .u8 o.r.x.i1, .int .u8 o.r.x.i2, .slice A n c, .int .i64 o.f, .int .i64 o.p, .int .i64 o.t, .int .i64 o.q, .int .i64 o.z] 37)) = wa at *
  obtain ⟨d0, d1, d2, d3, d4, d5, d6, d7, d8, d9, d10, d11, d12, d13, d14, d15, d16, d17, d18, d19, d20⟩ := hxa.ord
  rw [HK.out] at d0
  go_wp2_with fail
  refine (refZero_any o.r hA (by omega)).mono ?_
  rintro e w1 ⟨rfl, hb1⟩
  simp only [c0, c1, c2']
  have hx1 := hxa.below hb1 (by omega)
  have hT1 := hba.trans (hb1.mono (by omega))
  have hz1 := hb1.size
  clear d0 d1 d2 d3 d4 d5 d6 d7 d8 d9 d10 d11 d12 d13 d14 d15 d16 d17 d18 d19 d20 hxa hb1
  obtain ⟨d0, d1, d2, d3, d4, d5, d6, d7, d8, d9, d10, d11, d12, d13, d14, d15, d16, d17, d18, d19, d20⟩ := hx1.ord
  rw [HK.out] at d0
  go_wp2_with (first | (go_at_call 38; refine (refIn_any _ _ _ _).mono ?_; rintro e w' ⟨rfl, rfl⟩; simp only [c0, c1, c2']) | (go_at_call 37; refine (refIs_any _ _).mono ?_; rintro e w' ⟨rfl, rfl⟩))
  rw [hp.out]
  go_ret
  exact ⟨rfl, hT1⟩
set_option maxRecDepth 100000 in
set_option maxHeartbeats 1600000 in
theorem rc_1_3 {w : World} {B n c : Nat} {A : Option Addr} (o : OrdV) (h : Ro w B A n c o.r.os) (hB : B ≤ w.heap.size) (hk : o.k = 1) (c0 : (noneBo o.r) = true) (c1 : (eqQB o.f o.p o.t o.q o.z 0 0 0 0 0) = true) (c2 : (o.n == 0) = true) (c3' : (o.m == 0) = false) : Calls Tryz.prog 12 #[.agg #[.int .i64 o.k, .int .i64 o.n, .int .i64 o.m, .int .i64 o.r.k, .int .i64 o.r.pr, .int .i64 o.r.to, .int .i64 o.r.po, .int .i64 o.r.x.v, .int .i64 o.r.x.m, .int .u8 o.r.x.b0, .int .u8 o.r.x.b1, .int .u8 o.r.x.b2, .int .u8 o.r.x.i0, .int .u8 o.r.x.i1, .int .u8 o.r.x.i2, .slice A n c, .int .i64 o.f, .int .i64 o.p, .int .i64 o.t, .int .i64 o.q, .int .i64 o.z]] w fun e w' => e = .returned (.int .i64 (checkO o)) ∧ Below w.heap.size w w' := by
  have hp := Kp.mk (show checkO o = 2 by exact checkO_two (fun hh => by have hh := (okT_1 hk).1 hh; obtain ⟨e0, e1, e2, e3⟩ := hh; rw [c3'] at e3; simp at e3))
  have eQ : ∀ w, (Op.equalIn 10000 34 (.agg #[.int .i64 o.f, .int .i64 o.p, .int .i64 o.t, .int .i64 o.q, .int .i64 o.z]) (.agg #[.int .i64 0, .int .i64 0, .int .i64 0, .int .i64 0, .int .i64 0])).run Tryz.prog w = .ok (eqQB o.f o.p o.t o.q o.z 0 0 0 0 0) w := fun w => eq_probe o.f o.p o.t o.q o.z 0 0 0 0 0 w
  have hba := below_alloc w (.cells #[.int .i64 o.k, .int .i64 o.n, .int .i64 o.m, .int .i64 o.r.k, .int .i64 o.r.pr, .int .i64 o.r.to, .int .i64 o.r.po, .int .i64 o.r.x.v, .int .i64 o.r.x.m, .int .u8 o.r.x.b0, .int .u8 o.r.x.b1, .int .u8 o.r.x.b2, .int .u8 o.r.x.i0, .int .u8 o.r.x.i1, .int .u8 o.r.x.i2, .slice A n c, .int .i64 o.f, .int .i64 o.p, .int .i64 o.t, .int .i64 o.q, .int .i64 o.z] 37)
  have hza : (w.alloc (.cells #[.int .i64 o.k, .int .i64 o.n, .int .i64 o.m, .int .i64 o.r.k, .int .i64 o.r.pr, .int .i64 o.r.to, .int .i64 o.r.po, .int .i64 o.r.x.v, .int .i64 o.r.x.m, .int .u8 o.r.x.b0, .int .u8 o.r.x.b1, .int .u8 o.r.x.b2, .int .u8 o.r.x.i0, .int .u8 o.r.x.i1, .int .u8 o.r.x.i2, .slice A n c, .int .i64 o.f, .int .i64 o.p, .int .i64 o.t, .int .i64 o.q, .int .i64 o.z] 37)).heap.size = w.heap.size + 1 := by simp
  have hxa : Vb 37 (w.alloc (.cells #[.int .i64 o.k, .int .i64 o.n, .int .i64 o.m, .int .i64 o.r.k, .int .i64 o.r.pr, .int .i64 o.r.to, .int .i64 o.r.po, .int .i64 o.r.x.v, .int .i64 o.r.x.m, .int .u8 o.r.x.b0, .int .u8 o.r.x.b1, .int .u8 o.r.x.b2, .int .u8 o.r.x.i0, .int .u8 o.r.x.i1, .int .u8 o.r.x.i2, .slice A n c, .int .i64 o.f, .int .i64 o.p, .int .i64 o.t, .int .i64 o.q, .int .i64 o.z] 37)) w.heap.size (ocl o (.slice A n c)) := Vb.new 37 w (ocl o (.slice A n c))
  have hA := h.below' hba hB
  have HK := Kp.mk hk
  clear hk
  go_enter Tryz.func12, Tryz.ntmps12
  go_upto_region 1 with fail
  generalize (w.alloc (.cells #[.int .i64 o.k, .int .i64 o.n, .int .i64 o.m, .int .i64 o.r.k, .int .i64 o.r.pr, .int .i64 o.r.to, .int .i64 o.r.po, .int .i64 o.r.x.v, .int .i64 o.r.x.m, .int .u8 o.r.x.b0, .int .u8 o.r.x.b1, .int .u8 o.r.x.b2, .int .u8 o.r.x.i0, .int .u8 o.r.x.i1, .int .u8 o.r.x.i2, .slice A n c, .int .i64 o.f, .int .i64 o.p, .int .i64 o.t, .int .i64 o.q, .int .i64 o.z] 37)) = wa at *
  obtain ⟨d0, d1, d2, d3, d4, d5, d6, d7, d8, d9, d10, d11, d12, d13, d14, d15, d16, d17, d18, d19, d20⟩ := hxa.ord
  rw [HK.out] at d0
  go_wp2_with fail
  refine (refZero_any o.r hA (by omega)).mono ?_
  rintro e w1 ⟨rfl, hb1⟩
  simp only [c0, c1, c2, c3']
  have hx1 := hxa.below hb1 (by omega)
  have hT1 := hba.trans (hb1.mono (by omega))
  have hz1 := hb1.size
  clear d0 d1 d2 d3 d4 d5 d6 d7 d8 d9 d10 d11 d12 d13 d14 d15 d16 d17 d18 d19 d20 hxa hb1
  obtain ⟨d0, d1, d2, d3, d4, d5, d6, d7, d8, d9, d10, d11, d12, d13, d14, d15, d16, d17, d18, d19, d20⟩ := hx1.ord
  rw [HK.out] at d0
  go_wp2_with (first | (go_at_call 38; refine (refIn_any _ _ _ _).mono ?_; rintro e w' ⟨rfl, rfl⟩; simp only [c0, c1, c2, c3']) | (go_at_call 37; refine (refIs_any _ _).mono ?_; rintro e w' ⟨rfl, rfl⟩))
  rw [hp.out]
  go_ret
  exact ⟨rfl, hT1⟩
set_option maxRecDepth 100000 in
set_option maxHeartbeats 1600000 in
theorem rc_1_ok {w : World} {B n c : Nat} {A : Option Addr} (o : OrdV) (h : Ro w B A n c o.r.os) (hB : B ≤ w.heap.size) (hk : o.k = 1) (c0 : (noneBo o.r) = true) (c1 : (eqQB o.f o.p o.t o.q o.z 0 0 0 0 0) = true) (c2 : (o.n == 0) = true) (c3 : (o.m == 0) = true) : Calls Tryz.prog 12 #[.agg #[.int .i64 o.k, .int .i64 o.n, .int .i64 o.m, .int .i64 o.r.k, .int .i64 o.r.pr, .int .i64 o.r.to, .int .i64 o.r.po, .int .i64 o.r.x.v, .int .i64 o.r.x.m, .int .u8 o.r.x.b0, .int .u8 o.r.x.b1, .int .u8 o.r.x.b2, .int .u8 o.r.x.i0, .int .u8 o.r.x.i1, .int .u8 o.r.x.i2, .slice A n c, .int .i64 o.f, .int .i64 o.p, .int .i64 o.t, .int .i64 o.q, .int .i64 o.z]] w fun e w' => e = .returned (.int .i64 (checkO o)) ∧ Below w.heap.size w w' := by
  have hp := Kp.mk (show checkO o = 0 by exact checkO_nil ((okT_1 hk).2 ⟨c0, c1, c2, c3⟩))
  have eQ : ∀ w, (Op.equalIn 10000 34 (.agg #[.int .i64 o.f, .int .i64 o.p, .int .i64 o.t, .int .i64 o.q, .int .i64 o.z]) (.agg #[.int .i64 0, .int .i64 0, .int .i64 0, .int .i64 0, .int .i64 0])).run Tryz.prog w = .ok (eqQB o.f o.p o.t o.q o.z 0 0 0 0 0) w := fun w => eq_probe o.f o.p o.t o.q o.z 0 0 0 0 0 w
  have hba := below_alloc w (.cells #[.int .i64 o.k, .int .i64 o.n, .int .i64 o.m, .int .i64 o.r.k, .int .i64 o.r.pr, .int .i64 o.r.to, .int .i64 o.r.po, .int .i64 o.r.x.v, .int .i64 o.r.x.m, .int .u8 o.r.x.b0, .int .u8 o.r.x.b1, .int .u8 o.r.x.b2, .int .u8 o.r.x.i0, .int .u8 o.r.x.i1, .int .u8 o.r.x.i2, .slice A n c, .int .i64 o.f, .int .i64 o.p, .int .i64 o.t, .int .i64 o.q, .int .i64 o.z] 37)
  have hza : (w.alloc (.cells #[.int .i64 o.k, .int .i64 o.n, .int .i64 o.m, .int .i64 o.r.k, .int .i64 o.r.pr, .int .i64 o.r.to, .int .i64 o.r.po, .int .i64 o.r.x.v, .int .i64 o.r.x.m, .int .u8 o.r.x.b0, .int .u8 o.r.x.b1, .int .u8 o.r.x.b2, .int .u8 o.r.x.i0, .int .u8 o.r.x.i1, .int .u8 o.r.x.i2, .slice A n c, .int .i64 o.f, .int .i64 o.p, .int .i64 o.t, .int .i64 o.q, .int .i64 o.z] 37)).heap.size = w.heap.size + 1 := by simp
  have hxa : Vb 37 (w.alloc (.cells #[.int .i64 o.k, .int .i64 o.n, .int .i64 o.m, .int .i64 o.r.k, .int .i64 o.r.pr, .int .i64 o.r.to, .int .i64 o.r.po, .int .i64 o.r.x.v, .int .i64 o.r.x.m, .int .u8 o.r.x.b0, .int .u8 o.r.x.b1, .int .u8 o.r.x.b2, .int .u8 o.r.x.i0, .int .u8 o.r.x.i1, .int .u8 o.r.x.i2, .slice A n c, .int .i64 o.f, .int .i64 o.p, .int .i64 o.t, .int .i64 o.q, .int .i64 o.z] 37)) w.heap.size (ocl o (.slice A n c)) := Vb.new 37 w (ocl o (.slice A n c))
  have hA := h.below' hba hB
  have HK := Kp.mk hk
  clear hk
  go_enter Tryz.func12, Tryz.ntmps12
  go_upto_region 1 with fail
  generalize (w.alloc (.cells #[.int .i64 o.k, .int .i64 o.n, .int .i64 o.m, .int .i64 o.r.k, .int .i64 o.r.pr, .int .i64 o.r.to, .int .i64 o.r.po, .int .i64 o.r.x.v, .int .i64 o.r.x.m, .int .u8 o.r.x.b0, .int .u8 o.r.x.b1, .int .u8 o.r.x.b2, .int .u8 o.r.x.i0, .int .u8 o.r.x.i1, .int .u8 o.r.x.i2, .slice A n c, .int .i64 o.f, .int .i64 o.p, .int .i64 o.t, .int .i64 o.q, .int .i64 o.z] 37)) = wa at *
  obtain ⟨d0, d1, d2, d3, d4, d5, d6, d7, d8, d9, d10, d11, d12, d13, d14, d15, d16, d17, d18, d19, d20⟩ := hxa.ord
  rw [HK.out] at d0
  go_wp2_with fail
  refine (refZero_any o.r hA (by omega)).mono ?_
  rintro e w1 ⟨rfl, hb1⟩
  simp only [c0, c1, c2, c3]
  have hx1 := hxa.below hb1 (by omega)
  have hT1 := hba.trans (hb1.mono (by omega))
  have hz1 := hb1.size
  clear d0 d1 d2 d3 d4 d5 d6 d7 d8 d9 d10 d11 d12 d13 d14 d15 d16 d17 d18 d19 d20 hxa hb1
  obtain ⟨d0, d1, d2, d3, d4, d5, d6, d7, d8, d9, d10, d11, d12, d13, d14, d15, d16, d17, d18, d19, d20⟩ := hx1.ord
  rw [HK.out] at d0
  go_wp2_with (first | (go_at_call 38; refine (refIn_any _ _ _ _).mono ?_; rintro e w' ⟨rfl, rfl⟩; simp only [c0, c1, c2, c3]) | (go_at_call 37; refine (refIs_any _ _).mono ?_; rintro e w' ⟨rfl, rfl⟩))
  rw [hp.out]
  go_ret
  exact ⟨rfl, hT1⟩
set_option maxRecDepth 100000 in
set_option maxHeartbeats 1600000 in
theorem rc_2_0 {w : World} {B n c : Nat} {A : Option Addr} (o : OrdV) (h : Ro w B A n c o.r.os) (hB : B ≤ w.heap.size) (hk : o.k = 2) (c0' : (checkR o.r == 0) = false) : Calls Tryz.prog 12 #[.agg #[.int .i64 o.k, .int .i64 o.n, .int .i64 o.m, .int .i64 o.r.k, .int .i64 o.r.pr, .int .i64 o.r.to, .int .i64 o.r.po, .int .i64 o.r.x.v, .int .i64 o.r.x.m, .int .u8 o.r.x.b0, .int .u8 o.r.x.b1, .int .u8 o.r.x.b2, .int .u8 o.r.x.i0, .int .u8 o.r.x.i1, .int .u8 o.r.x.i2, .slice A n c, .int .i64 o.f, .int .i64 o.p, .int .i64 o.t, .int .i64 o.q, .int .i64 o.z]] w fun e w' => e = .returned (.int .i64 (checkO o)) ∧ Below w.heap.size w w' := by
  have hp := Kp.mk (show checkO o = 2 by exact checkO_two (fun hh => by have hh := (okT_2 hk).1 hh; obtain ⟨e0, e1, e2, e3⟩ := hh; rw [c0'] at e0; simp at e0))
  have eQ : ∀ w, (Op.equalIn 10000 34 (.agg #[.int .i64 o.f, .int .i64 o.p, .int .i64 o.t, .int .i64 o.q, .int .i64 o.z]) (.agg #[.int .i64 0, .int .i64 0, .int .i64 0, .int .i64 0, .int .i64 0])).run Tryz.prog w = .ok (eqQB o.f o.p o.t o.q o.z 0 0 0 0 0) w := fun w => eq_probe o.f o.p o.t o.q o.z 0 0 0 0 0 w
  have n0 : (checkR o.r != 0) = true := by rw [bne, c0']; rfl
  have hba := below_alloc w (.cells #[.int .i64 o.k, .int .i64 o.n, .int .i64 o.m, .int .i64 o.r.k, .int .i64 o.r.pr, .int .i64 o.r.to, .int .i64 o.r.po, .int .i64 o.r.x.v, .int .i64 o.r.x.m, .int .u8 o.r.x.b0, .int .u8 o.r.x.b1, .int .u8 o.r.x.b2, .int .u8 o.r.x.i0, .int .u8 o.r.x.i1, .int .u8 o.r.x.i2, .slice A n c, .int .i64 o.f, .int .i64 o.p, .int .i64 o.t, .int .i64 o.q, .int .i64 o.z] 37)
  have hza : (w.alloc (.cells #[.int .i64 o.k, .int .i64 o.n, .int .i64 o.m, .int .i64 o.r.k, .int .i64 o.r.pr, .int .i64 o.r.to, .int .i64 o.r.po, .int .i64 o.r.x.v, .int .i64 o.r.x.m, .int .u8 o.r.x.b0, .int .u8 o.r.x.b1, .int .u8 o.r.x.b2, .int .u8 o.r.x.i0, .int .u8 o.r.x.i1, .int .u8 o.r.x.i2, .slice A n c, .int .i64 o.f, .int .i64 o.p, .int .i64 o.t, .int .i64 o.q, .int .i64 o.z] 37)).heap.size = w.heap.size + 1 := by simp
  have hxa : Vb 37 (w.alloc (.cells #[.int .i64 o.k, .int .i64 o.n, .int .i64 o.m, .int .i64 o.r.k, .int .i64 o.r.pr, .int .i64 o.r.to, .int .i64 o.r.po, .int .i64 o.r.x.v, .int .i64 o.r.x.m, .int .u8 o.r.x.b0, .int .u8 o.r.x.b1, .int .u8 o.r.x.b2, .int .u8 o.r.x.i0, .int .u8 o.r.x.i1, .int .u8 o.r.x.i2, .slice A n c, .int .i64 o.f, .int .i64 o.p, .int .i64 o.t, .int .i64 o.q, .int .i64 o.z] 37)) w.heap.size (ocl o (.slice A n c)) := Vb.new 37 w (ocl o (.slice A n c))
  have hA := h.below' hba hB
  have HK := Kp.mk hk
  clear hk
  go_enter Tryz.func12, Tryz.ntmps12
  go_upto_region 1 with fail
  generalize (w.alloc (.cells #[.int .i64 o.k, .int .i64 o.n, .int .i64 o.m, .int .i64 o.r.k, .int .i64 o.r.pr, .int .i64 o.r.to, .int .i64 o.r.po, .int .i64 o.r.x.v, .int .i64 o.r.x.m, .int .u8 o.r.x.b0, .int .u8 o.r.x.b1, .int .u8 o.r.x.b2, .int .u8 o.r.x.i0, .int .u8 o.r.x.i1, .int .u8 o.r.x.i2, .slice A n c, .int .i64 o.f, .int .i64 o.p, .int .i64 o.t, .int .i64 o.q, .int .i64 o.z] 37)) = wa at *
  obtain ⟨d0, d1, d2, d3, d4, d5, d6, d7, d8, d9, d10, d11, d12, d13, d14, d15, d16, d17, d18, d19, d20⟩ := hxa.ord
  rw [HK.out] at d0
  go_wp2_with fail
  refine (refRuleO_any o.r hA (by omega)).mono ?_
  rintro e w1 ⟨rfl, hb1⟩
  skip
  have hx1 := hxa.below hb1 (by omega)
  have hT1 := hba.trans (hb1.mono (by omega))
  have hz1 := hb1.size
  clear d0 d1 d2 d3 d4 d5 d6 d7 d8 d9 d10 d11 d12 d13 d14 d15 d16 d17 d18 d19 d20 hxa hb1
  obtain ⟨d0, d1, d2, d3, d4, d5, d6, d7, d8, d9, d10, d11, d12, d13, d14, d15, d16, d17, d18, d19, d20⟩ := hx1.ord
  rw [HK.out] at d0
  go_wp2_with (first | (go_at_call 38; refine (refIn_any _ _ _ _).mono ?_; rintro e w' ⟨rfl, rfl⟩; simp only [c0']) | (go_at_call 37; refine (refIs_any _ _).mono ?_; rintro e w' ⟨rfl, rfl⟩))
  rw [hp.out]
  go_ret
  exact ⟨rfl, hT1⟩
set_option maxRecDepth 100000 in
set_option maxHeartbeats 1600000 in
theorem rc_2_1 {w : World} {B n c : Nat} {A : Option Addr} (o : OrdV) (h : Ro w B A n c o.r.os) (hB : B ≤ w.heap.size) (hk : o.k = 2) (c0 : (checkR o.r == 0) = true) (c1' : (eqQB o.f o.p o.t o.q o.z 0 0 0 0 0) = false) : Calls Tryz.prog 12 #[.agg #[.int .i64 o.k, .int .i64 o.n, .int .i64 o.m, .int .i64 o.r.k, .int .i64 o.r.pr, .int .i64 o.r.to, .int .i64 o.r.po, .int .i64 o.r.x.v, .int .i64 o.r.x.m, .int .u8 o.r.x.b0, .int .u8 o.r.x.b1, .int .u8 o.r.x.b2, .int .u8 o.r.x.i0, .int .u8 o.r.x.i1, .int .u8 o.r.x.i2, .slice A n c, .int .i64 o.f, .int .i64 o.p, .int .i64 o.t, .int .i64 o.q, .int .i64 o.z]] w fun e w' => e = .returned (.int .i64 (checkO o)) ∧ Below w.heap.size w w' := by
  have hp := Kp.mk (show checkO o = 2 by exact checkO_two (fun hh => by have hh := (okT_2 hk).1 hh; obtain ⟨e0, e1, e2, e3⟩ := hh; rw [c1'] at e1; simp at e1))
  have eQ : ∀ w, (Op.equalIn 10000 34 (.agg #[.int .i64 o.f, .int .i64 o.p, .int .i64 o.t, .int .i64 o.q, .int .i64 o.z]) (.agg #[.int .i64 0, .int .i64 0, .int .i64 0, .int .i64 0, .int .i64 0])).run Tryz.prog w = .ok (eqQB o.f o.p o.t o.q o.z 0 0 0 0 0) w := fun w => eq_probe o.f o.p o.t o.q o.z 0 0 0 0 0 w
  have n0 : (checkR o.r != 0) = false := by rw [bne, c0]; rfl
  have hba := below_alloc w (.cells #[.int .i64 o.k, .int .i64 o.n, .int .i64 o.m, .int .i64 o.r.k, .int .i64 o.r.pr, .int .i64 o.r.to, .int .i64 o.r.po, .int .i64 o.r.x.v, .int .i64 o.r.x.m, .int .u8 o.r.x.b0, .int .u8 o.r.x.b1, .int .u8 o.r.x.b2, .int .u8 o.r.x.i0, .int .u8 o.r.x.i1, .int .u8 o.r.x.i2, .slice A n c, .int .i64 o.f, .int .i64 o.p, .int .i64 o.t, .int .i64 o.q, .int .i64 o.z] 37)
  have hza : (w.alloc (.cells #[.int .i64 o.k, .int .i64 o.n, .int .i64 o.m, .int .i64 o.r.k, .int .i64 o.r.pr, .int .i64 o.r.to, .int .i64 o.r.po, .int .i64 o.r.x.v, .int .i64 o.r.x.m, .int .u8 o.r.x.b0, .int .u8 o.r.x.b1, .int .u8 o.r.x.b2, .int .u8 o.r.x.i0, .int .u8 o.r.x.i1, .int .u8 o.r.x.i2, .slice A n c, .int .i64 o.f, .int .i64 o.p, .int .i64 o.t, .int .i64 o.q, .int .i64 o.z] 37)).heap.size = w.heap.size + 1 := by simp
  have hxa : Vb 37 (w.alloc (.cells #[.int .i64 o.k, .int .i64 o.n, .int .i64 o.m, .int .i64 o.r.k, .int .i64 o.r.pr, .int .i64 o.r.to, .int .i64 o.r.po, .int .i64 o.r.x.v, .int .i64 o.r.x.m, .int .u8 o.r.x.b0, .int .u8 o.r.x.b1, .int .u8 o.r.x.b2, .int .u8 o.r.x.i0, .int .u8 o.r.x.i1, .int .u8 o.r.x.i2, .slice A n c, .int .i64 o.f, .int .i64 o.p, .int .i64 o.t, .int .i64 o.q, .int .i64 o.z] 37)) w.heap.size (ocl o (.slice A n c)) := Vb.new 37 w (ocl o (.slice A n c))
  have hA := h.below' hba hB
  have HK := Kp.mk hk
  clear hk
  go_enter Tryz.func12, Tryz.ntmps12
  go_upto_region 1 with fail
  generalize (w.alloc (.cells #[.int .i64 o.k, .int .i64 o.n, .int .i64 o.m, .int .i64 o.r.k, .int .i64 o.r.pr, .int .i64 o.r.to, .int .i64 o.r.po, .int .i64 o.r.x.v, .int .i64 o.r.x.m, .int .u8 o.r.x.b0, .int .u8 o.r.x.b1, .int .u8 o.r.x.b2, .int .u8 o.r.x.i0, .int .u8 o.r.x.i1, .int .u8 o.r.x.i2, .slice A n c, .int .i64 o.f, .int .i64 o.p, .int .i64 o.t, .int .i64 o.q, .int .i64 o.z] 37)) = wa at *
  obtain ⟨d0, d1, d2, d3, d4, d5, d6, d7, d8, d9, d10, d11, d12, d13, d14, d15, d16, d17, d18, d19, d20⟩ := hxa.ord
  rw [HK.out] at d0
  go_wp2_with fail
  refine (refRuleO_any o.r hA (by omega)).mono ?_
  rintro e w1 ⟨rfl, hb1⟩
  skip
  have hx1 := hxa.below hb1 (by omega)
  have hT1 := hba.trans (hb1.mono (by omega))
  have hz1 := hb1.size
  clear d0 d1 d2 d3 d4 d5 d6 d7 d8 d9 d10 d11 d12 d13 d14 d15 d16 d17 d18 d19 d20 hxa hb1
  obtain ⟨d0, d1, d2, d3, d4, d5, d6, d7, d8, d9, d10, d11, d12, d13, d14, d15, d16, d17, d18, d19, d20⟩ := hx1.ord
  rw [HK.out] at d0
  go_wp2_with (first | (go_at_call 38; refine (refIn_any _ _ _ _).mono ?_; rintro e w' ⟨rfl, rfl⟩; simp only [c0, c1']) | (go_at_call 37; refine (refIs_any _ _).mono ?_; rintro e w' ⟨rfl, rfl⟩))
  rw [hp.out]
  go_ret
  exact ⟨rfl, hT1⟩
set_option maxRecDepth 100000 in
set_option maxHeartbeats 1600000 in
theorem rc_2_2 {w : World} {B n c : Nat} {A : Option Addr} (o : OrdV) (h : Ro w B A n c o.r.os) (hB : B ≤ w.heap.size) (hk : o.k = 2) (c0 : (checkR o.r == 0) = true) (c1 : (eqQB o.f o.p o.t o.q o.z 0 0 0 0 0) = true) (c2' : (o.n == 0) = false) : Calls Tryz.prog 12 #[.agg #[.int .i64 o.k, .int .i64 o.n, .int .i64 o.m, .int .i64 o.r.k, .int .i64 o.r.pr, .int .i64 o.r.to, .int .i64 o.r.po, .int .i64 o.r.x.v, .int .i64 o.r.x.m, .int .u8 o.r.x.b0, .int .u8 o.r.x.b1, .int .u8 o.r.x.b2, .int .u8 o.r.x.i0, .int .u8 o.r.x.i1, .int .u8 o.r.x.i2, .slice A n c, .int .i64 o.f, .int .i64 o.p, .int .i64 o.t, .int .i64 o.q, .int .i64 o.z]] w fun e w' => e = .returned (.int .i64 (checkO o)) ∧ Below w.heap.size w w' := by
  have hp := Kp.mk (show checkO o = 2 by exact checkO_two (fun hh => by have hh := (okT_2 hk).1 hh; obtain ⟨e0, e1, e2, e3⟩ := hh; rw [c2'] at e2; simp at e2))
  have eQ : ∀ w, (Op.equalIn 10000 34 (.agg #[.int .i64 o.f, .int .i64 o.p, .int .i64 o.t, .int .i64 o.q, .int .i64 o.z]) (.agg #[.int .i64 0, .int .i64 0, .int .i64 0, .int .i64 0, .int .i64 0])).run Tryz.prog w = .ok (eqQB o.f o.p o.t o.q o.z 0 0 0 0 0) w := fun w => eq_probe o.f o.p o.t o.q o.z 0 0 0 0 0 w
  have n0 : (checkR o.r != 0) = false := by rw [bne, c0]; rfl
  have hba := below_alloc w (.cells #[.int .i64 o.k, .int .i64 o.n, .int .i64 o.m, .int .i64 o.r.k, .int .i64 o.r.pr, .int .i64 o.r.to, .int .i64 o.r.po, .int .i64 o.r.x.v, .int .i64 o.r.x.m, .int .u8 o.r.x.b0, .int .u8 o.r.x.b1, .int .u8 o.r.x.b2, .int .u8 o.r.x.i0, .int .u8 o.r.x.i1, .int .u8 o.r.x.i2, .slice A n c, .int .i64 o.f, .int .i64 o.p, .int .i64 o.t, .int .i64 o.q, .int .i64 o.z] 37)
  have hza : (w.alloc (.cells #[.int .i64 o.k, .int .i64 o.n, .int .i64 o.m, .int .i64 o.r.k, .int .i64 o.r.pr, .int .i64 o.r.to, .int .i64 o.r.po, .int .i64 o.r.x.v, .int .i64 o.r.x.m, .int .u8 o.r.x.b0, .int .u8 o.r.x.b1, .int .u8 o.r.x.b2, .int .u8 o.r.x.i0, .int .u8 o.r.x.i1, .int .u8 o.r.x.i2, .slice A n c, .int .i64 o.f, .int .i64 o.p, .int .i64 o.t, .int .i64 o.q, .int .i64 o.z] 37)).heap.size = w.heap.size + 1 := by simp
  have hxa : Vb 37 (w.alloc (.cells #[.int .i64 o.k, .int .i64 o.n, .int .i64 o.m, .int .i64 o.r.k, .int .i64 o.r.pr, .int .i64 o.r.to, .int .i64 o.r.po, .int .i64 o.r.x.v, .int .i64 o.r.x.m, .int .u8 o.r.x.b0, .int .u8 o.r.x.b1, .int .u8 o.r.x.b2, .int .u8 o.r.x.i0, .int .u8 o.r.x.i1, .int .u8 o.r.x.i2, .slice A n c, .int .i64 o.f, .int .i64 o.p, .int .i64 o.t, .int .i64 o.q, .int .i64 o.z] 37)) w.heap.size (ocl o (.slice A n c)) := Vb.new 37 w (ocl o (.slice A n c))
  have hA := h.below' hba hB
  have HK := Kp.mk hk
  clear hk
  go_enter Tryz.func12, Tryz.ntmps12
  go_upto_region 1 with fail
  generalize (w.alloc (.cells #[.int .i64 o.k, .int .i64 o.n, .int .i64 o.m, .int .i64 o.r.k, .int .i64 o.r.pr, .int .i64 o.r.to, .int .i64 o.r.po, .int .i64 o.r.x.v, .int .i64 o.r.x.m, .int .u8 o.r.x.b0, .int .u8 o.r.x.b1, .int .u8 o.r.x.b2, .int .u8 o.r.x.i0, .int .u8 o.r.x.i1, .int .u8 o.r.x.i2, .slice A n c, .int .i64 o.f, .int .i64 o.p, .int .i64 o.t, .int .i64 o.q, .int .i64 o.z] 37)) = wa at *
  obtain ⟨d0, d1, d2, d3, d4, d5, d6, d7, d8, d9, d10, d11, d12, d13, d14, d15, d16, d17, d18, d19, d20⟩ := hxa.ord
  rw [HK.out] at d0
  go_wp2_with fail
  refine (refRuleO_any o.r hA (by omega)).mono ?_
  rintro e w1 ⟨rfl, hb1⟩
  skip
  have hx1 := hxa.below hb1 (by omega)
  have hT1 := hba.trans (hb1.mono (by omega))
  have hz1 := hb1.size
  clear d0 d1 d2 d3 d4 d5 d6 d7 d8 d9 d10 d11 d12 d13 d14 d15 d16 d17 d18 d19 d20 hxa hb1
  obtain ⟨d0, d1, d2, d3, d4, d5, d6, d7, d8, d9, d10, d11, d12, d13, d14, d15, d16, d17, d18, d19, d20⟩ := hx1.ord
  rw [HK.out] at d0
  go_wp2_with (first | (go_at_call 38; refine (refIn_any _ _ _ _).mono ?_; rintro e w' ⟨rfl, rfl⟩; simp only [c0, c1, c2']) | (go_at_call 37; refine (refIs_any _ _).mono ?_; rintro e w' ⟨rfl, rfl⟩))
  rw [hp.out]
  go_ret
  exact ⟨rfl, hT1⟩
set_option maxRecDepth 100000 in
set_option maxHeartbeats 1600000 in
theorem rc_2_3 {w : World} {B n c : Nat} {A : Option Addr} (o : OrdV) (h : Ro w B A n c o.r.os) (hB : B ≤ w.heap.size) (hk : o.k = 2) (c0 : (checkR o.r == 0) = true) (c1 : (eqQB o.f o.p o.t o.q o.z 0 0 0 0 0) = true) (c2 : (o.n == 0) = true) (c3' : (o.m == 0) = false) : Calls Tryz.prog 12 #[.agg #[.int .i64 o.k, .int .i64 o.n, .int .i64 o.m, .int .i64 o.r.k, .int .i64 o.r.pr, .int .i64 o.r.to, .int .i64 o.r.po, .int .i64 o.r.x.v, .int .i64 o.r.x.m, .int .u8 o.r.x.b0, .int .u8 o.r.x.b1, .int .u8 o.r.x.b2, .int .u8 o.r.x.i0, .int .u8 o.r.x.i1, .int .u8 o.r.x.i2, .slice A n c, .int .i64 o.f, .int .i64 o.p, .int .i64 o.t, .int .i64 o.q, .int .i64 o.z]] w fun e w' => e = .returned (.int .i64 (checkO o)) ∧ Below w.heap.size w w' := by
  have hp := Kp.mk (show checkO o = 2 by exact checkO_two (fun hh => by have hh := (okT_2 hk).1 hh; obtain ⟨e0, e1, e2, e3⟩ := hh; rw [c3'] at e3; simp at e3))
  have eQ : ∀ w, (Op.equalIn 10000 34 (.agg #[.int .i64 o.f, .int .i64 o.p, .int .i64 o.t, .int .i64 o.q, .int .i64 o.z]) (.agg #[.int .i64 0, .int .i64 0, .int .i64 0, .int .i64 0, .int .i64 0])).run Tryz.prog w = .ok (eqQB o.f o.p o.t o.q o.z 0 0 0 0 0) w := fun w => eq_probe o.f o.p o.t o.q o.z 0 0 0 0 0 w
  have n0 : (checkR o.r != 0) = false := by rw [bne, c0]; rfl
  have hba := below_alloc w (.cells #[.int .i64 o.k, .int .i64 o.n, .int .i64 o.m, .int .i64 o.r.k, .int .i64 o.r.pr, .int .i64 o.r.to, .int .i64 o.r.po, .int .i64 o.r.x.v, .int .i64 o.r.x.m, .int .u8 o.r.x.b0, .int .u8 o.r.x.b1, .int .u8 o.r.x.b2, .int .u8 o.r.x.i0, .int .u8 o.r.x.i1, .int .u8 o.r.x.i2, .slice A n c, .int .i64 o.f, .int .i64 o.p, .int .i64 o.t, .int .i64 o.q, .int .i64 o.z] 37)
  have hza : (w.alloc (.cells #[.int .i64 o.k, .int .i64 o.n, .int .i64 o.m, .int .i64 o.r.k, .int .i64 o.r.pr, .int .i64 o.r.to, .int .i64 o.r.po, .int .i64 o.r.x.v, .int .i64 o.r.x.m, .int .u8 o.r.x.b0, .int .u8 o.r.x.b1, .int .u8 o.r.x.b2, .int .u8 o.r.x.i0, .int .u8 o.r.x.i1, .int .u8 o.r.x.i2, .slice A n c, .int .i64 o.f, .int .i64 o.p, .int .i64 o.t, .int .i64 o.q, .int .i64 o.z] 37)).heap.size = w.heap.size + 1 := by simp
  have hxa : Vb 37 (w.alloc (.cells #[.int .i64 o.k, .int .i64 o.n, .int .i64 o.m, .int .i64 o.r.k, .int .i64 o.r.pr, .int .i64 o.r.to, .int .i64 o.r.po, .int .i64 o.r.x.v, .int .i64 o.r.x.m, .int .u8 o.r.x.b0, .int .u8 o.r.x.b1, .int .u8 o.r.x.b2, .int .u8 o.r.x.i0, .int .u8 o.r.x.i1, .int .u8 o.r.x.i2, .slice A n c, .int .i64 o.f, .int .i64 o.p, .int .i64 o.t, .int .i64 o.q, .int .i64 o.z] 37)) w.heap.size (ocl o (.slice A n c)) := Vb.new 37 w (ocl o (.slice A n c))
  have hA := h.below' hba hB
  have HK := Kp.mk hk
  clear hk
  go_enter Tryz.func12, Tryz.ntmps12
  go_upto_region 1 with fail
  generalize (w.alloc (.cells #[.int .i64 o.k, .int .i64 o.n, .int .i64 o.m, .int .i64 o.r.k, .int .i64 o.r.pr, .int .i64 o.r.to, .int .i64 o.r.po, .int .i64 o.r.x.v, .int .i64 o.r.x.m, .int .u8 o.r.x.b0, .int .u8 o.r.x.b1, .int .u8 o.r.x.b2, .int .u8 o.r.x.i0, .int .u8 o.r.x.i1, .int .u8 o.r.x.i2, .slice A n c, .int .i64 o.f, .int .i64 o.p, .int .i64 o.t, .int .i64 o.q, .int .i64 o.z] 37)) = wa at *
  obtain ⟨d0, d1, d2, d3, d4, d5, d6, d7, d8, d9, d10, d11, d12, d13, d14, d15, d16, d17, d18, d19, d20⟩ := hxa.ord
  rw [HK.out] at d0
  go_wp2_with fail
  refine (refRuleO_any o.r hA (by omega)).mono ?_
  rintro e w1 ⟨rfl, hb1⟩
  skip
  have hx1 := hxa.below hb1 (by omega)
  have hT1 := hba.trans (hb1.mono (by omega))
  have hz1 := hb1.size
  clear d0 d1 d2 d3 d4 d5 d6 d7 d8 d9 d10 d11 d12 d13 d14 d15 d16 d17 d18 d19 d20 hxa hb1
  obtain ⟨d0, d1, d2, d3, d4, d5, d6, d7, d8, d9, d10, d11, d12, d13, d14, d15, d16, d17, d18, d19, d20⟩ := hx1.ord
  rw [HK.out] at d0
  go_wp2_with (first | (go_at_call 38; refine (refIn_any _ _ _ _).mono ?_; rintro e w' ⟨rfl, rfl⟩; simp only [c0, c1, c2, c3']) | (go_at_call 37; refine (refIs_any _ _).mono ?_; rintro e w' ⟨rfl, rfl⟩))
  rw [hp.out]
  go_ret
  exact ⟨rfl, hT1⟩
set_option maxRecDepth 100000 in
set_option maxHeartbeats 1600000 in
theorem rc_2_ok {w : World} {B n c : Nat} {A : Option Addr} (o : OrdV) (h : Ro w B A n c o.r.os) (hB : B ≤ w.heap.size) (hk : o.k = 2) (c0 : (checkR o.r == 0) = true) (c1 : (eqQB o.f o.p o.t o.q o.z 0 0 0 0 0) = true) (c2 : (o.n == 0) = true) (c3 : (o.m == 0) = true) : Calls Tryz.prog 12 #[.agg #[.int .i64 o.k, .int .i64 o.n, .int .i64 o.m, .int .i64 o.r.k, .int .i64 o.r.pr, .int .i64 o.r.to, .int .i64 o.r.po, .int .i64 o.r.x.v, .int .i64 o.r.x.m, .int .u8 o.r.x.b0, .int .u8 o.r.x.b1, .int .u8 o.r.x.b2, .int .u8 o.r.x.i0, .int .u8 o.r.x.i1, .int .u8 o.r.x.i2, .slice A n c, .int .i64 o.f, .int .i64 o.p, .int .i64 o.t, .int .i64 o.q, .int .i64 o.z]] w fun e w' => e = .returned (.int .i64 (checkO o)) ∧ Below w.heap.size w w' := by
  have hp := Kp.mk (show checkO o = 0 by exact checkO_nil ((okT_2 hk).2 ⟨c0, c1, c2, c3⟩))
  have eQ : ∀ w, (Op.equalIn 10000 34 (.agg #[.int .i64 o.f, .int .i64 o.p, .int .i64 o.t, .int .i64 o.q, .int .i64 o.z]) (.agg #[.int .i64 0, .int .i64 0, .int .i64 0, .int .i64 0, .int .i64 0])).run Tryz.prog w = .ok (eqQB o.f o.p o.t o.q o.z 0 0 0 0 0) w := fun w => eq_probe o.f o.p o.t o.q o.z 0 0 0 0 0 w
  have n0 : (checkR o.r != 0) = false := by rw [bne, c0]; rfl
  have hba := below_alloc w (.cells #[.int .i64 o.k, .int .i64 o.n, .int .i64 o.m, .int .i64 o.r.k, .int .i64 o.r.pr, .int .i64 o.r.to, .int .i64 o.r.po, .int .i64 o.r.x.v, .int .i64 o.r.x.m, .int .u8 o.r.x.b0, .int .u8 o.r.x.b1, .int .u8 o.r.x.b2, .int .u8 o.r.x.i0, .int .u8 o.r.x.i1, .int .u8 o.r.x.i2, .slice A n c, .int .i64 o.f, .int .i64 o.p, .int .i64 o.t, .int .i64 o.q, .int .i64 o.z] 37)
  have hza : (w.alloc (.cells #[.int .i64 o.k, .int .i64 o.n, .int .i64 o.m, .int .i64 o.r.k, .int .i64 o.r.pr, .int .i64 o.r.to, .int .i64 o.r.po, .int .i64 o.r.x.v, .int .i64 o.r.x.m, .int .u8 o.r.x.b0, .int .u8 o.r.x.b1, .int .u8 o.r.x.b2, .int .u8 o.r.x.i0, .int .u8 o.r.x.i1, .int .u8 o.r.x.i2, .slice A n c, .int .i64 o.f, .int .i64 o.p, .int .i64 o.t, .int .i64 o.q, .int .i64 o.z] 37)).heap.size = w.heap.size + 1 := by simp
  have hxa : Vb 37 (w.alloc (.cells #[.int .i64 o.k, .int .i64 o.n, .int .i64 o.m, .int .i64 o.r.k, .int .i64 o.r.pr, .int .i64 o.r.to, .int .i64 o.r.po, .int .i64 o.r.x.v, .int .i64 o.r.x.m, .int .u8 o.r.x.b0, .int .u8 o.r.x.b1, .int .u8 o.r.x.b2, .int .u8 o.r.x.i0, .int .u8 o.r.x.i1, .int .u8 o.r.x.i2, .slice A n c, .int .i64 o.f, .int .i64 o.p, .int .i64 o.t, .int .i64 o.q, .int .i64 o.z] 37)) w.heap.size (ocl o (.slice A n c)) := Vb.new 37 w (ocl o (.slice A n c))
  have hA := h.below' hba hB
  have HK := Kp.mk hk
  clear hk
  go_enter Tryz.func12, Tryz.ntmps12
  go_upto_region 1 with fail
  generalize (w.alloc (.cells #[.int .i64 o.k, .int .i64 o.n, .int .i64 o.m, .int .i64 o.r.k, .int .i64 o.r.pr, .int .i64 o.r.to, .int .i64 o.r.po, .int .i64 o.r.x.v, .int .i64 o.r.x.m, .int .u8 o.r.x.b0, .int .u8 o.r.x.b1, .int .u8 o.r.x.b2, .int .u8 o.r.x.i0, .int .u8 o.r.x.i1, .int .u8 o.r.x.i2, .slice A n c, .int .i64 o.f, .int .i64 o.p, .int .i64 o.t, .int .i64 o.q, .int .i64 o.z] 37)) = wa at *
  obtain ⟨d0, d1, d2, d3, d4, d5, d6, d7, d8, d9, d10, d11, d12, d13, d14, d15, d16, d17, d18, d19, d20⟩ := hxa.ord
  rw [HK.out] at d0
  go_wp2_with fail
  refine (refRuleO_any o.r hA (by omega)).mono ?_
  rintro e w1 ⟨rfl, hb1⟩
  skip
  have hx1 := hxa.below hb1 (by omega)
  have hT1 := hba.trans (hb1.mono (by omega))
  have hz1 := hb1.size
  clear d0 d1 d2 d3 d4 d5 d6 d7 d8 d9 d10 d11 d12 d13 d14 d15 d16 d17 d18 d19 d20 hxa hb1
  obtain ⟨d0, d1, d2, d3, d4, d5, d6, d7, d8, d9, d10, d11, d12, d13, d14, d15, d16, d17, d18, d19, d20⟩ := hx1.ord
  rw [HK.out] at d0
  go_wp2_with (first | (go_at_call 38; refine (refIn_any _ _ _ _).mono ?_; rintro e w' ⟨rfl, rfl⟩; simp only [c0, c1, c2, c3]) | (go_at_call 37; refine (refIs_any _ _).mono ?_; rintro e w' ⟨rfl, rfl⟩))
  rw [hp.out]
  go_ret
  exact ⟨rfl, hT1⟩
set_option maxRecDepth 100000 in
set_option maxHeartbeats 1600000 in
theorem rc_3_0 {w : World} {B n c : Nat} {A : Option Addr} (o : OrdV) (h : Ro w B A n c o.r.os) (hB : B ≤ w.heap.size) (hk : o.k = 3) (c0' : (checkR o.r == 0) = false) : Calls Tryz.prog 12 #[.agg #[.int .i64 o.k, .int .i64 o.n, .int .i64 o.m, .int .i64 o.r.k, .int .i64 o.r.pr, .int .i64 o.r.to, .int .i64 o.r.po, .int .i64 o.r.x.v, .int .i64 o.r.x.m, .int .u8 o.r.x.b0, .int .u8 o.r.x.b1, .int .u8 o.r.x.b2, .int .u8 o.r.x.i0, .int .u8 o.r.x.i1, .int .u8 o.r.x.i2, .slice A n c, .int .i64 o.f, .int .i64 o.p, .int .i64 o.t, .int .i64 o.q, .int .i64 o.z]] w fun e w' => e = .returned (.int .i64 (checkO o)) ∧ Below w.heap.size w w' := by
  have hp := Kp.mk (show checkO o = 2 by exact checkO_two (fun hh => by have hh := (okT_3 hk).1 hh; obtain ⟨e0, e1, e2, e3⟩ := hh; rw [c0'] at e0; simp at e0))
  have eQ : ∀ w, (Op.equalIn 10000 34 (.agg #[.int .i64 o.f, .int .i64 o.p, .int .i64 o.t, .int .i64 o.q, .int .i64 o.z]) (.agg #[.int .i64 0, .int .i64 0, .int .i64 0, .int .i64 0, .int .i64 0])).run Tryz.prog w = .ok (eqQB o.f o.p o.t o.q o.z 0 0 0 0 0) w := fun w => eq_probe o.f o.p o.t o.q o.z 0 0 0 0 0 w
  have n0 : (checkR o.r != 0) = true := by rw [bne, c0']; rfl
  have hba := below_alloc w (.cells #[.int .i64 o.k, .int .i64 o.n, .int .i64 o.m, .int .i64 o.r.k, .int .i64 o.r.pr, .int .i64 o.r.to, .int .i64 o.r.po, .int .i64 o.r.x.v, .int .i64 o.r.x.m, .int .u8 o.r.x.b0, .int .u8 o.r.x.b1, .int .u8 o.r.x.b2, .int .u8 o.r.x.i0, .int .u8 o.r.x.i1, .int .u8 o.r.x.i2, .slice A n c, .int .i64 o.f, .int .i64 o.p, .int .i64 o.t, .int .i64 o.q, .int .i64 o.z] 37)
  have hza : (w.alloc (.cells #[.int .i64 o.k, .int .i64 o.n, .int .i64 o.m, .int .i64 o.r.k, .int .i64 o.r.pr, .int .i64 o.r.to, .int .i64 o.r.po, .int .i64 o.r.x.v, .int .i64 o.r.x.m, .int .u8 o.r.x.b0, .int .u8 o.r.x.b1, .int .u8 o.r.x.b2, .int .u8 o.r.x.i0, .int .u8 o.r.x.i1, .int .u8 o.r.x.i2, .slice A n c, .int .i64 o.f, .int .i64 o.p, .int .i64 o.t, .int .i64 o.q, .int .i64 o.z] 37)).heap.size = w.heap.size + 1 := by simp
  have hxa : Vb 37 (w.alloc (.cells #[.int .i64 o.k, .int .i64 o.n, .int .i64 o.m, .int .i64 o.r.k, .int .i64 o.r.pr, .int .i64 o.r.to, .int .i64 o.r.po, .int .i64 o.r.x.v, .int .i64 o.r.x.m, .int .u8 o.r.x.b0, .int .u8 o.r.x.b1, .int .u8 o.r.x.b2, .int .u8 o.r.x.i0, .int .u8 o.r.x.i1, .int .u8 o.r.x.i2, .slice A n c, .int .i64 o.f, .int .i64 o.p, .int .i64 o.t, .int .i64 o.q, .int .i64 o.z] 37)) w.heap.size (ocl o (.slice A n c)) := Vb.new 37 w (ocl o (.slice A n c))
  have hA := h.below' hba hB
  have HK := Kp.mk hk
  clear hk
  go_enter Tryz.func12, Tryz.ntmps12
  go_upto_region 1 with fail
  generalize (w.alloc (.cells #[.int .i64 o.k, .int .i64 o.n, .int .i64 o.m, .int .i64 o.r.k, .int .i64 o.r.pr, .int .i64 o.r.to, .int .i64 o.r.po, .int .i64 o.r.x.v, .int .i64 o.r.x.m, .int .u8 o.r.x.b0, .int .u8 o.r.x.b1, .int .u8 o.r.x.b2, .int .u8 o.r.x.i0, .int .u8 o.r.x.i1, .int .u8 o.r.x.i2, .slice A n c, .int .i64 o.f, .int .i64 o.p, .int .i64 o.t, .int .i64 o.q, .int .i64 o.z] 37)) = wa at *
  obtain ⟨d0, d1, d2, d3, d4, d5, d6, d7, d8, d9, d10, d11, d12, d13, d14, d15, d16, d17, d18, d19, d20⟩ := hxa.ord
  rw [HK.out] at d0
  go_wp2_with fail
  refine (refRuleO_any o.r hA (by omega)).mono ?_
  rintro e w1 ⟨rfl, hb1⟩
  skip
  have hx1 := hxa.below hb1 (by omega)
  have hT1 := hba.trans (hb1.mono (by omega))
  have hz1 := hb1.size
  clear d0 d1 d2 d3 d4 d5 d6 d7 d8 d9 d10 d11 d12 d13 d14 d15 d16 d17 d18 d19 d20 hxa hb1
  obtain ⟨d0, d1, d2, d3, d4, d5, d6, d7, d8, d9, d10, d11, d12, d13, d14, d15, d16, d17, d18, d19, d20⟩ := hx1.ord
  rw [HK.out] at d0
  go_wp2_with (first | (go_at_call 38; refine (refIn_any _ _ _ _).mono ?_; rintro e w' ⟨rfl, rfl⟩; simp only [c0']) | (go_at_call 37; refine (refIs_any _ _).mono ?_; rintro e w' ⟨rfl, rfl⟩))
  rw [hp.out]
  go_ret
  exact ⟨rfl, hT1⟩
set_option maxRecDepth 100000 in
set_option maxHeartbeats 1600000 in
theorem rc_3_1 {w : World} {B n c : Nat} {A : Option Addr} (o : OrdV) (h : Ro w B A n c o.r.os) (hB : B ≤ w.heap.size) (hk : o.k = 3) (c0 : (checkR o.r == 0) = true) (c1' : (eqQB o.f o.p o.t o.q o.z 0 0 0 0 0) = false) : Calls Tryz.prog 12 #[.agg #[.int .i64 o.k, .int .i64 o.n, .int .i64 o.m, .int .i64 o.r.k, .int .i64 o.r.pr, .int .i64 o.r.to, .int .i64 o.r.po, .int .i64 o.r.x.v, .int .i64 o.r.x.m, .int .u8 o.r.x.b0, .int .u8 o.r.x.b1, .int .u8 o.r.x.b2, .int .u8 o.r.x.i0, .int .u8 o.r.x.i1, .int .u8 o.r.x.i2, .slice A n c, .int .i64 o.f, .int .i64 o.p, .int .i64 o.t, .int .i64 o.q, .int .i64 o.z]] w fun e w' => e = .returned (.int .i64 (checkO o)) ∧ Below w.heap.size w w' := by
  have hp := Kp.mk (show checkO o = 2 by exact checkO_two (fun hh => by have hh := (okT_3 hk).1 hh; obtain ⟨e0, e1, e2, e3⟩ := hh; rw [c1'] at e1; simp at e1))
  have eQ : ∀ w, (Op.equalIn 10000 34 (.agg #[.int .i64 o.f, .int .i64 o.p, .int .i64 o.t, .int .i64 o.q, .int .i64 o.z]) (.agg #[.int .i64 0, .int .i64 0, .int .i64 0, .int .i64 0, .int .i64 0])).run Tryz.prog w = .ok (eqQB o.f o.p o.t o.q o.z 0 0 0 0 0) w := fun w => eq_probe o.f o.p o.t o.q o.z 0 0 0 0 0 w
  have n0 : (checkR o.r != 0) = false := by rw [bne, c0]; rfl
  have hba := below_alloc w (.cells #[.int .i64 o.k, .int .i64 o.n, .int .i64 o.m, .int .i64 o.r.k, .int .i64 o.r.pr, .int .i64 o.r.to, .int .i64 o.r.po, .int .i64 o.r.x.v, .int .i64 o.r.x.m, .int .u8 o.r.x.b0, .int .u8 o.r.x.b1, .int .u8 o.r.x.b2, .int .u8 o.r.x.i0, .int .u8 o.r.x.i1, .int .u8 o.r.x.i2, .slice A n c, .int .i64 o.f, .int .i64 o.p, .int .i64 o.t, .int .i64 o.q, .int .i64 o.z] 37)
  have hza : (w.alloc (.cells #[.int .i64 o.k, .int .i64 o.n, .int .i64 o.m, .int .i64 o.r.k, .int .i64 o.r.pr, .int .i64 o.r.to, .int .i64 o.r.po, .int .i64 o.r.x.v, .int .i64 o.r.x.m, .int .u8 o.r.x.b0, .int .u8 o.r.x.b1, .int .u8 o.r.x.b2, .int .u8 o.r.x.i0, .int .u8 o.r.x.i1, .int .u8 o.r.x.i2, .slice A n c, .int .i64 o.f, .int .i64 o.p, .int .i64 o.t, .int .i64 o.q, .int .i64 o.z] 37)).heap.size = w.heap.size + 1 := by simp
  have hxa : Vb 37 (w.alloc (.cells #[.int .i64 o.k, .int .i64 o.n, .int .i64 o.m, .int .i64 o.r.k, .int .i64 o.r.pr, .int .i64 o.r.to, .int .i64 o.r.po, .int .i64 o.r.x.v, .int .i64 o.r.x.m, .int .u8 o.r.x.b0, .int .u8 o.r.x.b1, .int .u8 o.r.x.b2, .int .u8 o.r.x.i0, .int .u8 o.r.x.i1, .int .u8 o.r.x.i2, .slice A n c, .int .i64 o.f, .int .i64 o.p, .int .i64 o.t, .int .i64 o.q, .int .i64 o.z] 37)) w.heap.size (ocl o (.slice A n c)) := Vb.new 37 w (ocl o (.slice A n c))
  have hA := h.below' hba hB
  have HK := Kp.mk hk
  clear hk
  go_enter Tryz.func12, Tryz.ntmps12
  go_upto_region 1 with fail
  generalize (w.alloc (.cells #[.int .i64 o.k, .int .i64 o.n, .int .i64 o.m, .int .i64 o.r.k, .int .i64 o.r.pr, .int .i64 o.r.to, .int .i64 o.r.po, .int .i64 o.r.x.v, .int .i64 o.r.x.m, .int .u8 o.r.x.b0, .int .u8 o.r.x.b1, .int .u8 o.r.x.b2, .int .u8 o.r.x.i0, .int .u8 o.r.x.i1, .int .u8 o.r.x.i2, .slice A n c, .int .i64 o.f, .int .i64 o.p, .int .i64 o.t, .int .i64 o.q, .int .i64 o.z] 37)) = wa at *
  obtain ⟨d0, d1, d2, d3, d4, d5, d6, d7, d8, d9, d10, d11, d12, d13, d14, d15, d16, d17, d18, d19, d20⟩ := hxa.ord
  rw [HK.out] at d0
  go_wp2_with fail
  refine (refRuleO_any o.r hA (by omega)).mono ?_
  rintro e w1 ⟨rfl, hb1⟩
  skip
  have hx1 := hxa.below hb1 (by omega)
  have hT1 := hba.trans (hb1.mono (by omega))
  have hz1 := hb1.size
  clear d0 d1 d2 d3 d4 d5 d6 d7 d8 d9 d10 d11 d12 d13 d14 d15 d16 d17 d18 d19 d20 hxa hb1
  obtain ⟨d0, d1, d2, d3, d4, d5, d6, d7, d8, d9, d10, d11, d12, d13, d14, d15, d16, d17, d18, d19, d20⟩ := hx1.ord
  rw [HK.out] at d0
  go_wp2_with (first | (go_at_call 38; refine (refIn_any _ _ _ _).mono ?_; rintro e w' ⟨rfl, rfl⟩; simp only [c0, c1']) | (go_at_call 37; refine (refIs_any _ _).mono ?_; rintro e w' ⟨rfl, rfl⟩))
  rw [hp.out]
  go_ret
  exact ⟨rfl, hT1⟩
set_option maxRecDepth 100000 in
set_option maxHeartbeats 1600000 in
theorem rc_3_2 {w : World} {B n c : Nat} {A : Option Addr} (o : OrdV) (h : Ro w B A n c o.r.os) (hB : B ≤ w.heap.size) (hk : o.k = 3) (c0 : (checkR o.r == 0) = true) (c1 : (eqQB o.f o.p o.t o.q o.z 0 0 0 0 0) = true) (c2' : (o.n == 0) = false) : Calls Tryz.prog 12 #[.agg #[.int .i64 o.k, .int .i64 o.n, .int .i64 o.m, .int .i64 o.r.k, .int .i64 o.r.pr, .int .i64 o.r.to, .int .i64 o.r.po, .int .i64 o.r.x.v, .int .i64 o.r.x.m, .int .u8 o.r.x.b0, .int .u8 o.r.x.b1, .int .u8 o.r.x.b2, .int .u8 o.r.x.i0, .int .u8 o.r.x.i1, .int .u8 o.r.x.i2, .slice A n c, .int .i64 o.f, .int .i64 o.p, .int .i64 o.t, .int .i64 o.q, .int .i64 o.z]] w fun e w' => e = .returned (.int .i64 (checkO o)) ∧ Below w.heap.size w w' := by
  have hp := Kp.mk (show checkO o = 2 by exact checkO_two (fun hh => by have hh := (okT_3 hk).1 hh; obtain ⟨e0, e1, e2, e3⟩ := hh; rw [c2'] at e2; simp at e2))
  have eQ : ∀ w, (Op.equalIn 10000 34 (.agg #[.int .i64 o.f, .int .i64 o.p, .int .i64 o.t, .int .i64 o.q, .int .i64 o.z]) (.agg #[.int .i64 0, .int .i64 0, .int .i64 0, .int .i64 0, .int .i64 0])).run Tryz.prog w = .ok (eqQB o.f o.p o.t o.q o.z 0 0 0 0 0) w := fun w => eq_probe o.f o.p o.t o.q o.z 0 0 0 0 0 w
  have n0 : (checkR o.r != 0) = false := by rw [bne, c0]; rfl
  have hba := below_alloc w (.cells #[.int .i64 o.k, .int .i64 o.n, .int .i64 o.m, .int .i64 o.r.k, .int .i64 o.r.pr, .int .i64 o.r.to, .int .i64 o.r.po, .int .i64 o.r.x.v, .int .i64 o.r.x.m, .int .u8 o.r.x.b0, .int .u8 o.r.x.b1, .int .u8 o.r.x.b2, .int .u8 o.r.x.i0, .int .u8 o.r.x.i1, .int .u8 o.r.x.i2, .slice A n c, .int .i64 o.f, .int .i64 o.p, .int .i64 o.t, .int .i64 o.q, .int .i64 o.z] 37)
  have hza : (w.alloc (.cells #[.int .i64 o.k, .int .i64 o.n, .int .i64 o.m, .int .i64 o.r.k, .int .i64 o.r.pr, .int .i64 o.r.to, .int .i64 o.r.po, .int .i64 o.r.x.v, .int .i64 o.r.x.m, .int .u8 o.r.x.b0, .int .u8 o.r.x.b1, .int .u8 o.r.x.b2, .int .u8 o.r.x.i0, .int .u8 o.r.x.i1, .int .u8 o.r.x.i2, .slice A n c, .int .i64 o.f, .int .i64 o.p, .int .i64 o.t, .int .i64 o.q, .int .i64 o.z] 37)).heap.size = w.heap.size + 1 := by simp
  have hxa : Vb 37 (w.alloc (.cells #[.int .i64 o.k, .int .i64 o.n, .int .i64 o.m, .int .i64 o.r.k, .int .i64 o.r.pr, .int .i64 o.r.to, .int .i64 o.r.po, .int .i64 o.r.x.v, .int .i64 o.r.x.m, .int .u8 o.r.x.b0, .int .u8 o.r.x.b1, .int .u8 o.r.x.b2, .int .u8 o.r.x.i0, .int .u8 o.r.x.i1, .int .u8 o.r.x.i2, .slice A n c, .int .i64 o.f, .int .i64 o.p, .int .i64 o.t, .int .i64 o.q, .int .i64 o.z] 37)) w.heap.size (ocl o (.slice A n c)) := Vb.new 37 w (ocl o (.slice A n c))
  have hA := h.below' hba hB
  have HK := Kp.mk hk
  clear hk
  go_enter Tryz.func12, Tryz.ntmps12
  go_upto_region 1 with fail
  generalize (w.alloc (.cells #[.int .i64 o.k, .int .i64 o.n, .int .i64 o.m, .int .i64 o.r.k, .int .i64 o.r.pr, .int .i64 o.r.to, .int .i64 o.r.po, .int .i64 o.r.x.v, .int .i64 o.r.x.m, .int .u8 o.r.x.b0, .int .u8 o.r.x.b1, .int .u8 o.r.x.b2, .int .u8 o.r.x.i0, .int .u8 o.r.x.i1, .int .u8 o.r.x.i2, .slice A n c, .int .i64 o.f, .int .i64 o.p, .int .i64 o.t, .int .i64 o.q, .int .i64 o.z] 37)) = wa at *
  obtain ⟨d0, d1, d2, d3, d4, d5, d6, d7, d8, d9, d10, d11, d12, d13, d14, d15, d16, d17, d18, d19, d20⟩ := hxa.ord
  rw [HK.out] at d0
  go_wp2_with fail
  refine (refRuleO_any o.r hA (by omega)).mono ?_
  rintro e w1 ⟨rfl, hb1⟩
  skip
  have hx1 := hxa.below hb1 (by omega)
  have hT1 := hba.trans (hb1.mono (by omega))
  have hz1 := hb1.size
  clear d0 d1 d2 d3 d4 d5 d6 d7 d8 d9 d10 d11 d12 d13 d14 d15 d16 d17 d18 d19 d20 hxa hb1
  obtain ⟨d0, d1, d2, d3, d4, d5, d6, d7, d8, d9, d10, d11, d12, d13, d14, d15, d16, d17, d18, d19, d20⟩ := hx1.ord
  rw [HK.out] at d0
  go_wp2_with (first | (go_at_call 38; refine (refIn_any _ _ _ _).mono ?_; rintro e w' ⟨rfl, rfl⟩; simp only [c0, c1, c2']) | (go_at_call 37; refine (refIs_any _ _).mono ?_; rintro e w' ⟨rfl, rfl⟩))
  rw [hp.out]
  go_ret
  exact ⟨rfl, hT1⟩
set_option maxRecDepth 100000 in
set_option maxHeartbeats 1600000 in
theorem rc_3_3 {w : World} {B n c : Nat} {A : Option Addr} (o : OrdV) (h : Ro w B A n c o.r.os) (hB : B ≤ w.heap.size) (hk : o.k = 3) (c0 : (checkR o.r == 0) = true) (c1 : (eqQB o.f o.p o.t o.q o.z 0 0 0 0 0) = true) (c2 : (o.n == 0) = true) (c3' : (o.m == 0) = false) : Calls Tryz.prog 12 #[.agg #[.int .i64 o.k, .int .i64 o.n, .int .i64 o.m, .int .i64 o.r.k, .int .i64 o.r.pr, .int .i64 o.r.to, .int .i64 o.r.po, .int .i64 o.r.x.v, .int .i64 o.r.x.m, .int .u8 o.r.x.b0, .int .u8 o.r.x.b1, .int .u8 o.r.x.b2, .int .u8 o.r.x.i0, .int .u8 o.r.x.i1, .int .u8 o.r.x.i2, .slice A n c, .int .i64 o.f, .int .i64 o.p, .int .i64 o.t, .int .i64 o.q, .int .i64 o.z]] w fun e w' => e = .returned (.int .i64 (checkO o)) ∧ Below w.heap.size w w' := by
  have hp := Kp.mk (show checkO o = 2 by exact checkO_two (fun hh => by have hh := (okT_3 hk).1 hh; obtain ⟨e0, e1, e2, e3⟩ := hh; rw [c3'] at e3; simp at e3))
  have eQ : ∀ w, (Op.equalIn 10000 34 (.agg #[.int .i64 o.f, .int .i64 o.p, .int .i64 o.t, .int .i64 o.q, .int .i64 o.z]) (.agg #[.int .i64 0, .int .i64 0, .int .i64 0, .int .i64 0, .int .i64 0])).run Tryz.prog w = .ok (eqQB o.f o.p o.t o.q o.z 0 0 0 0 0) w := fun w => eq_probe o.f o.p o.t o.q o.z 0 0 0 0 0 w
  have n0 : (checkR o.r != 0) = false := by rw [bne, c0]; rfl
  have hba := below_alloc w (.cells #[.int .i64 o.k, .int .i64 o.n, .int .i64 o.m, .int .i64 o.r.k, .int .i64 o.r.pr, .int .i64 o.r.to, .int .i64 o.r.po, .int .i64 o.r.x.v, .int .i64 o.r.x.m, .int .u8 o.r.x.b0, .int .u8 o.r.x.b1, .int .u8 o.r.x.b2, .int .u8 o.r.x.i0, .int .u8 o.r.x.i1, .int .u8 o.r.x.i2, .slice A n c, .int .i64 o.f, .int .i64 o.p, .int .i64 o.t, .int .i64 o.q, .int .i64 o.z] 37)
  have hza : (w.alloc (.cells #[.int .i64 o.k, .int .i64 o.n, .int .i64 o.m, .int .i64 o.r.k, .int .i64 o.r.pr, .int .i64 o.r.to, .int .i64 o.r.po, .int .i64 o.r.x.v, .int .i64 o.r.x.m, .int .u8 o.r.x.b0, .int .u8 o.r.x.b1, .int .u8 o.r.x.b2, .int .u8 o.r.x.i0, .int .u8 o.r.x.i1, .int .u8 o.r.x.i2, .slice A n c, .int .i64 o.f, .int .i64 o.p, .int .i64 o.t, .int .i64 o.q, .int .i64 o.z] 37)).heap.size = w.heap.size + 1 := by simp
  have hxa : Vb 37 (w.alloc (.cells #[.int .i64 o.k, .int .i64 o.n, .int .i64 o.m, .int .i64 o.r.k, .int .i64 o.r.pr, .int .i64 o.r.to, .int .i64 o.r.po, .int .i64 o.r.x.v, .int .i64 o.r.x.m, .int .u8 o.r.x.b0, .int .u8 o.r.x.b1, .int .u8 o.r.x.b2, .int .u8 o.r.x.i0, .int .u8 o.r.x.i1, .int .u8 o.r.x.i2, .slice A n c, .int .i64 o.f, .int .i64 o.p, .int .i64 o.t, .int .i64 o.q, .int .i64 o.z] 37)) w.heap.size (ocl o (.slice A n c)) := Vb.new 37 w (ocl o (.slice A n c))
  have hA := h.below' hba hB
  have HK := Kp.mk hk
  clear hk
  go_enter Tryz.func12, Tryz.ntmps12
  go_upto_region 1 with fail
  generalize (w.alloc (.cells #[.int .i64 o.k, .int .i64 o.n, .int .i64 o.m, .int .i64 o.r.k, .int .i64 o.r.pr, .int .i64 o.r.to, .int .i64 o.r.po, .int .i64 o.r.x.v, .int .i64 o.r.x.m, .int .u8 o.r.x.b0, .int .u8 o.r.x.b1, .int .u8 o.r.x.b2, .int .u8 o.r.x.i0, .int .u8 o.r.x.i1, .int .u8 o.r.x.i2, .slice A n c, .int .i64 o.f, .int .i64 o.p, .int .i64 o.t, .int .i64 o.q, .int .i64 o.z] 37)) = wa at *
  obtain ⟨d0, d1, d2, d3, d4, d5, d6, d7, d8, d9, d10, d11, d12, d13, d14, d15, d16, d17, d18, d19, d20⟩ := hxa.ord
  rw [HK.out] at d0
  go_wp2_with fail
  refine (refRuleO_any o.r hA (by omega)).mono ?_
  rintro e w1 ⟨rfl, hb1⟩
  skip
  have hx1 := hxa.below hb1 (by omega)
  have hT1 := hba.trans (hb1.mono (by omega))
  have hz1 := hb1.size
  clear d0 d1 d2 d3 d4 d5 d6 d7 d8 d9 d10 d11 d12 d13 d14 d15 d16 d17 d18 d19 d20 hxa hb1
  obtain ⟨d0, d1, d2, d3, d4, d5, d6, d7, d8, d9, d10, d11, d12, d13, d14, d15, d16, d17, d18, d19, d20⟩ := hx1.ord
  rw [HK.out] at d0
  go_wp2_with (first | (go_at_call 38; refine (refIn_any _ _ _ _).mono ?_; rintro e w' ⟨rfl, rfl⟩; simp only [c0, c1, c2, c3']) | (go_at_call 37; refine (refIs_any _ _).mono ?_; rintro e w' ⟨rfl, rfl⟩))
  rw [hp.out]
  go_ret
  exact ⟨rfl, hT1⟩
set_option maxRecDepth 100000 in
set_option maxHeartbeats 1600000 in
theorem rc_3_ok {w : World} {B n c : Nat} {A : Option Addr} (o : OrdV) (h : Ro w B A n c o.r.os) (hB : B ≤ w.heap.size) (hk : o.k = 3) (c0 : (checkR o.r == 0) = true) (c1 : (eqQB o.f o.p o.t o.q o.z 0 0 0 0 0) = true) (c2 : (o.n == 0) = true) (c3 : (o.m == 0) = true) : Calls Tryz.prog 12 #[.agg #[.int .i64 o.k, .int .i64 o.n, .int .i64 o.m, .int .i64 o.r.k, .int .i64 o.r.pr, .int .i64 o.r.to, .int .i64 o.r.po, .int .i64 o.r.x.v, .int .i64 o.r.x.m, .int .u8 o.r.x.b0, .int .u8 o.r.x.b1, .int .u8 o.r.x.b2, .int .u8 o.r.x.i0, .int .u8 o.r.x.i1, .int .u8 o.r.x.i2, .slice A n c, .int .i64 o.f, .int .i64 o.p, .int .i64 o.t, .int .i64 o.q, .int .i64 o.z]] w fun e w' => e = .returned (.int .i64 (checkO o)) ∧ Below w.heap.size w w' := by
  have hp := Kp.mk (show checkO o = 0 by exact checkO_nil ((okT_3 hk).2 ⟨c0, c1, c2, c3⟩))
  have eQ : ∀ w, (Op.equalIn 10000 34 (.agg #[.int .i64 o.f, .int .i64 o.p, .int .i64 o.t, .int .i64 o.q, .int .i64 o.z]) (.agg #[.int .i64 0, .int .i64 0, .int .i64 0, .int .i64 0, .int .i64 0])).run Tryz.prog w = .ok (eqQB o.f o.p o.t o.q o.z 0 0 0 0 0) w := fun w => eq_probe o.f o.p o.t o.q o.z 0 0 0 0 0 w
  have n0 : (checkR o.r != 0) = false := by rw [bne, c0]; rfl
  have hba := below_alloc w (.cells #[.int .i64 o.k, .int .i64 o.n, .int .i64 o.m, .int .i64 o.r.k, .int .i64 o.r.pr, .int .i64 o.r.to, .int .i64 o.r.po, .int .i64 o.r.x.v, .int .i64 o.r.x.m, .int .u8 o.r.x.b0, .int .u8 o.r.x.b1, .int .u8 o.r.x.b2, .int .u8 o.r.x.i0, .int .u8 o.r.x.i1, .int .u8 o.r.x.i2, .slice A n c, .int .i64 o.f, .int .i64 o.p, .int .i64 o.t, .int .i64 o.q, .int .i64 o.z] 37)
  have hza : (w.alloc (.cells #[.int .i64 o.k, .int .i64 o.n, .int .i64 o.m, .int .i64 o.r.k, .int .i64 o.r.pr, .int .i64 o.r.to, .int .i64 o.r.po, .int .i64 o.r.x.v, .int .i64 o.r.x.m, .int .u8 o.r.x.b0, .int .u8 o.r.x.b1, .int .u8 o.r.x.b2, .int .u8 o.r.x.i0, .int .u8 o.r.x.i1, .int .u8 o.r.x.i2, .slice A n c, .int .i64 o.f, .int .i64 o.p, .int .i64 o.t, .int .i64 o.q, .int .i64 o.z] 37)).heap.size = w.heap.size + 1 := by simp
  have hxa : Vb 37 (w.alloc (.cells #[.int .i64 o.k, .int .i64 o.n, .int .i64 o.m, .int .i64 o.r.k, .int .i64 o.r.pr, .int .i64 o.r.to, .int .i64 o.r.po, .int .i64 o.r.x.v, .int .i64 o.r.x.m, .int .u8 o.r.x.b0, .int .u8 o.r.x.b1, .int .u8 o.r.x.b2, .int .u8 o.r.x.i0, .int .u8 o.r.x.i1, .int .u8 o.r.x.i2, .slice A n c, .int .i64 o.f, .int .i64 o.p, .int .i64 o.t, .int .i64 o.q, .int .i64 o.z] 37)) w.heap.size (ocl o (.slice A n c)) := Vb.new 37 w (ocl o (.slice A n c))
  have hA := h.below' hba hB
  have HK := Kp.mk hk
  clear hk
  go_enter Tryz.func12, Tryz.ntmps12
  go_upto_region 1 with fail
  generalize (w.alloc (.cells #[.int .i64 o.k, .int .i64 o.n, .int .i64 o.m, .int .i64 o.r.k, .int .i64 o.r.pr, .int .i64 o.r.to, .int .i64 o.r.po, .int .i64 o.r.x.v, .int .i64 o.r.x.m, .int .u8 o.r.x.b0, .int .u8 o.r.x.b1, .int .u8 o.r.x.b2, .int .u8 o.r.x.i0, .int .u8 o.r.x.i1, .int .u8 o.r.x.i2, .slice A n c, .int .i64 o.f, .int .i64 o.p, .int .i64 o.t, .int .i64 o.q, .int .i64 o.z] 37)) = wa at *
  obtain ⟨d0, d1, d2, d3, d4, d5, d6, d7, d8, d9, d10, d11, d12, d13, d14, d15, d16, d17, d18, d19, d20⟩ := hxa.ord
  rw [HK.out] at d0
  go_wp2_with fail
  refine (refRuleO_any o.r hA (by omega)).mono ?_
  rintro e w1 ⟨rfl, hb1⟩
  skip
  have hx1 := hxa.below hb1 (by omega)
  have hT1 := hba.trans (hb1.mono (by omega))
  have hz1 := hb1.size
  clear d0 d1 d2 d3 d4 d5 d6 d7 d8 d9 d10 d11 d12 d13 d14 d15 d16 d17 d18 d19 d20 hxa hb1
  obtain ⟨d0, d1, d2, d3, d4, d5, d6, d7, d8, d9, d10, d11, d12, d13, d14, d15, d16, d17, d18, d19, d20⟩ := hx1.ord
  rw [HK.out] at d0
  go_wp2_with (first | (go_at_call 38; refine (refIn_any _ _ _ _).mono ?_; rintro e w' ⟨rfl, rfl⟩; simp only [c0, c1, c2, c3]) | (go_at_call 37; refine (refIs_any _ _).mono ?_; rintro e w' ⟨rfl, rfl⟩))
  rw [hp.out]
  go_ret
  exact ⟨rfl, hT1⟩
set_option maxRecDepth 100000 in
set_option maxHeartbeats 1600000 in
theorem rc_4_2 {w : World} {B n c : Nat} {A : Option Addr} (o : OrdV) (h : Ro w B A n c o.r.os) (hB : B ≤ w.heap.size) (hk : o.k = 4) (c0 : (noneBo o.r) = true) (c1 : (eqQB o.f o.p o.t o.q o.z 0 0 0 0 0) = true) (c2' : (inB o.n 0 200) = false) : Calls Tryz.prog 12 #[.agg #[.int .i64 o.k, .int .i64 o.n, .int .i64 o.m, .int .i64 o.r.k, .int .i64 o.r.pr, .int .i64 o.r.to, .int .i64 o.r.po, .int .i64 o.r.x.v, .int .i64 o.r.x.m, .int .u8 o.r.x.b0, .int .u8 o.r.x.b1, .int .u8 o.r.x.b2, .int .u8 o.r.x.i0, .int .u8 o.r.x.i1, .int .u8 o.r.x.i2, .slice A n c, .int .i64 o.f, .int .i64 o.p, .int .i64 o.t, .int .i64 o.q, .int .i64 o.z]] w fun e w' => e = .returned (.int .i64 (checkO o)) ∧ Below w.heap.size w w' := by
  have hp := Kp.mk (show checkO o = 2 by exact checkO_two (fun hh => by have hh := (okT_4 hk).1 hh; obtain ⟨e0, e1, e2, e3⟩ := hh; rw [c2'] at e2; simp at e2))
  have eQ : ∀ w, (Op.equalIn 10000 34 (.agg #[.int .i64 o.f, .int .i64 o.p, .int .i64 o.t, .int .i64 o.q, .int .i64 o.z]) (.agg #[.int .i64 0, .int .i64 0, .int .i64 0, .int .i64 0, .int .i64 0])).run Tryz.prog w = .ok (eqQB o.f o.p o.t o.q o.z 0 0 0 0 0) w := fun w => eq_probe o.f o.p o.t o.q o.z 0 0 0 0 0 w
  have hba := below_alloc w (.cells #[.int .i64 o.k, .int .i64 o.n, .int .i64 o.m, .int .i64 o.r.k, .int .i64 o.r.pr, .int .i64 o.r.to, .int .i64 o.r.po, .int .i64 o.r.x.v, .int .i64 o.r.x.m, .int .u8 o.r.x.b0, .int .u8 o.r.x.b1, .int .u8 o.r.x.b2, .int .u8 o.r.x.i0, .int .u8 o.r.x.i1, .int .u8 o.r.x.i2, .slice A n c, .int .i64 o.f, .int .i64 o.p, .int .i64 o.t, .int .i64 o.q, .int .i64 o.z] 37)
  have hza : (w.alloc (.cells #[.int .i64 o.k, .int .i64 o.n, .int .i64 o.m, .int .i64 o.r.k, .int .i64 o.r.pr, .int .i64 o.r.to, .int .i64 o.r.po, .int .i64 o.r.x.v, .int .i64 o.r.x.m, .int .u8 o.r.x.b0, .int .u8 o.r.x.b1, .int .u8 o.r.x.b2, .int .u8 o.r.x.i0, .int .u8 o.r.x.i1, .int .u8 o.r.x.i2, .slice A n c, .int .i64 o.f, .int .i64 o.p, .int .i64 o.t, .int .i64 o.q, .int .i64 o.z] 37)).heap.size = w.heap.size + 1 := by simp
  have hxa : Vb 37 (w.alloc (.cells #[.int .i64 o.k, .int .i64 o.n, .int .i64 o.m, .int .i64 o.r.k, .int .i64 o.r.pr, .int .i64 o.r.to, .int .i64 o.r.po, .int .i64 o.r.x.v, .int .i64 o.r.x.m, .int .u8 o.r.x.b0, .int .u8 o.r.x.b1, .int .u8 o.r.x.b2, .int .u8 o.r.x.i0, .int .u8 o.r.x.i1, .int .u8 o.r.x.i2, .slice A n c, .int .i64 o.f, .int .i64 o.p, .int .i64 o.t, .int .i64 o.q, .int .i64 o.z] 37)) w.heap.size (ocl o (.slice A n c)) := Vb.new 37 w (ocl o (.slice A n c))
  have hA := h.below' hba hB
  have HK := Kp.mk hk
  clear hk
  go_enter Tryz.func12, Tryz.ntmps12
  go_upto_region 1 with fail
  generalize (w.alloc (.cells #[.int .i64 o.k, .int .i64 o.n, .int .i64 o.m, .int .i64 o.r.k, .int .i64 o.r.pr, .int .i64 o.r.to, .int .i64 o.r.po, .int .i64 o.r.x.v, .int .i64 o.r.x.m, .int .u8 o.r.x.b0, .int .u8 o.r.x.b1, .int .u8 o.r.x.b2, .int .u8 o.r.x.i0, .int .u8 o.r.x.i1, .int .u8 o.r.x.i2, .slice A n c, .int .i64 o.f, .int .i64 o.p, .int .i64 o.t, .int .i64 o.q, .int .i64 o.z] 37)) = wa at *
  obtain ⟨d0, d1, d2, d3, d4, d5, d6, d7, d8, d9, d10, d11, d12, d13, d14, d15, d16, d17, d18, d19, d20⟩ := hxa.ord
  rw [HK.out] at d0
  go_wp2_with fail
  refine (refZero_any o.r hA (by omega)).mono ?_
  rintro e w1 ⟨rfl, hb1⟩
  simp only [c0, c1, c2']
  have hx1 := hxa.below hb1 (by omega)
  have hT1 := hba.trans (hb1.mono (by omega))
  have hz1 := hb1.size
  clear d0 d1 d2 d3 d4 d5 d6 d7 d8 d9 d10 d11 d12 d13 d14 d15 d16 d17 d18 d19 d20 hxa hb1
  obtain ⟨d0, d1, d2, d3, d4, d5, d6, d7, d8, d9, d10, d11, d12, d13, d14, d15, d16, d17, d18, d19, d20⟩ := hx1.ord
  rw [HK.out] at d0
  go_wp2_with (first | (go_at_call 38; refine (refIn_any _ _ _ _).mono ?_; rintro e w' ⟨rfl, rfl⟩; simp only [c0, c1, c2']) | (go_at_call 37; refine (refIs_any _ _).mono ?_; rintro e w' ⟨rfl, rfl⟩))
  rw [hp.out]
  go_ret
  exact ⟨rfl, hT1⟩
set_option maxRecDepth 100000 in
set_option maxHeartbeats 1600000 in
theorem rc_4_3 {w : World} {B n c : Nat} {A : Option Addr} (o : OrdV) (h : Ro w B A n c o.r.os) (hB : B ≤ w.heap.size) (hk : o.k = 4) (c0 : (noneBo o.r) = true) (c1 : (eqQB o.f o.p o.t o.q o.z 0 0 0 0 0) = true) (c2 : (inB o.n 0 200) = true) (c3' : (o.m == 0) = false) : Calls Tryz.prog 12 #[.agg #[.int .i64 o.k, .int .i64 o.n, .int .i64 o.m, .int .i64 o.r.k, .int .i64 o.r.pr, .int .i64 o.r.to, .int .i64 o.r.po, .int .i64 o.r.x.v, .int .i64 o.r.x.m, .int .u8 o.r.x.b0, .int .u8 o.r.x.b1, .int .u8 o.r.x.b2, .int .u8 o.r.x.i0, .int .u8 o.r.x.i1, .int .u8 o.r.x.i2, .slice A n c, .int .i64 o.f, .int .i64 o.p, .int .i64 o.t, .int .i64 o.q, .int .i64 o.z]] w fun e w' => e = .returned (.int .i64 (checkO o)) ∧ Below w.heap.size w w' := by
  have hp := Kp.mk (show checkO o = 2 by exact checkO_two (fun hh => by have hh := (okT_4 hk).1 hh; obtain ⟨e0, e1, e2, e3⟩ := hh; rw [c3'] at e3; simp at e3))
  have eQ : ∀ w, (Op.equalIn 10000 34 (.agg #[.int .i64 o.f, .int .i64 o.p, .int .i64 o.t, .int .i64 o.q, .int .i64 o.z]) (.agg #[.int .i64 0, .int .i64 0, .int .i64 0, .int .i64 0, .int .i64 0])).run Tryz.prog w = .ok (eqQB o.f o.p o.t o.q o.z 0 0 0 0 0) w := fun w => eq_probe o.f o.p o.t o.q o.z 0 0 0 0 0 w
  have hba := below_alloc w (.cells #[.int .i64 o.k, .int .i64 o.n, .int .i64 o.m, .int .i64 o.r.k, .int .i64 o.r.pr, .int .i64 o.r.to, .int .i64 o.r.po, .int .i64 o.r.x.v, .int .i64 o.r.x.m, .int .u8 o.r.x.b0, .int .u8 o.r.x.b1, .int .u8 o.r.x.b2, .int .u8 o.r.x.i0, .int .u8 o.r.x.i1, .int .u8 o.r.x.i2, .slice A n c, .int .i64 o.f, .int .i64 o.p, .int .i64 o.t, .int .i64 o.q, .int .i64 o.z] 37)
  have hza : (w.alloc (.cells #[.int .i64 o.k, .int .i64 o.n, .int .i64 o.m, .int .i64 o.r.k, .int .i64 o.r.pr, .int .i64 o.r.to, .int .i64 o.r.po, .int .i64 o.r.x.v, .int .i64 o.r.x.m, .int .u8 o.r.x.b0, .int .u8 o.r.x.b1, .int .u8 o.r.x.b2, .int .u8 o.r.x.i0, .int .u8 o.r.x.i1, .int .u8 o.r.x.i2, .slice A n c, .int .i64 o.f, .int .i64 o.p, .int .i64 o.t, .int .i64 o.q, .int .i64 o.z] 37)).heap.size = w.heap.size + 1 := by simp
  have hxa : Vb 37 (w.alloc (.cells #[.int .i64 o.k, .int .i64 o.n, .int .i64 o.m, .int .i64 o.r.k, .int .i64 o.r.pr, .int .i64 o.r.to, .int .i64 o.r.po, .int .i64 o.r.x.v, .int .i64 o.r.x.m, .int .u8 o.r.x.b0, .int .u8 o.r.x.b1, .int .u8 o.r.x.b2, .int .u8 o.r.x.i0, .int .u8 o.r.x.i1, .int .u8 o.r.x.i2, .slice A n c, .int .i64 o.f, .int .i64 o.p, .int .i64 o.t, .int .i64 o.q, .int .i64 o.z] 37)) w.heap.size (ocl o (.slice A n c)) := Vb.new 37 w (ocl o (.slice A n c))
  have hA := h.below' hba hB
  have HK := Kp.mk hk
  clear hk
  go_enter Tryz.func12, Tryz.ntmps12
  go_upto_region 1 with fail
  generalize (w.alloc (.cells #[.int .i64 o.k, .int .i64 o.n, .int .i64 o.m, .int .i64 o.r.k, .int .i64 o.r.pr, .int .i64 o.r.to, .int .i64 o.r.po, .int .i64 o.r.x.v, .int .i64 o.r.x.m, .int .u8 o.r.x.b0, .int .u8 o.r.x.b1, .int .u8 o.r.x.b2, .int .u8 o.r.x.i0, .int .u8 o.r.x.i1, .int .u8 o.r.x.i2, .slice A n c, .int .i64 o.f, .int .i64 o.p, .int .i64 o.t, .int .i64 o.q, .int .i64 o.z] 37)) = wa at *
  obtain ⟨d0, d1, d2, d3, d4, d5, d6, d7, d8, d9, d10, d11, d12, d13, d14, d15, d16, d17, d18, d19, d20⟩ := hxa.ord
  rw [HK.out] at d0
  go_wp2_with fail
  refine (refZero_any o.r hA (by omega)).mono ?_
  rintro e w1 ⟨rfl, hb1⟩
  simp only [c0, c1, c2, c3']
  have hx1 := hxa.below hb1 (by omega)
  have hT1 := hba.trans (hb1.mono (by omega))
  have hz1 := hb1.size
  clear d0 d1 d2 d3 d4 d5 d6 d7 d8 d9 d10 d11 d12 d13 d14 d15 d16 d17 d18 d19 d20 hxa hb1
  obtain ⟨d0, d1, d2, d3, d4, d5, d6, d7, d8, d9, d10, d11, d12, d13, d14, d15, d16, d17, d18, d19, d20⟩ := hx1.ord
  rw [HK.out] at d0
  go_wp2_with (first | (go_at_call 38; refine (refIn_any _ _ _ _).mono ?_; rintro e w' ⟨rfl, rfl⟩; simp only [c0, c1, c2, c3']) | (go_at_call 37; refine (refIs_any _ _).mono ?_; rintro e w' ⟨rfl, rfl⟩))
  rw [hp.out]
  go_ret
  exact ⟨rfl, hT1⟩
set_option maxRecDepth 100000 in
set_option maxHeartbeats 1600000 in
theorem rc_4_ok {w : World} {B n c : Nat} {A : Option Addr} (o : OrdV) (h : Ro w B A n c o.r.os) (hB : B ≤ w.heap.size) (hk : o.k = 4) (c0 : (noneBo o.r) = true) (c1 : (eqQB o.f o.p o.t o.q o.z 0 0 0 0 0) = true) (c2 : (inB o.n 0 200) = true) (c3 : (o.m == 0) = true) : Calls Tryz.prog 12 #[.agg #[.int .i64 o.k, .int .i64 o.n, .int .i64 o.m, .int .i64 o.r.k, .int .i64 o.r.pr, .int .i64 o.r.to, .int .i64 o.r.po, .int .i64 o.r.x.v, .int .i64 o.r.x.m, .int .u8 o.r.x.b0, .int .u8 o.r.x.b1, .int .u8 o.r.x.b2, .int .u8 o.r.x.i0, .int .u8 o.r.x.i1, .int .u8 o.r.x.i2, .slice A n c, .int .i64 o.f, .int .i64 o.p, .int .i64 o.t, .int .i64 o.q, .int .i64 o.z]] w fun e w' => e = .returned (.int .i64 (checkO o)) ∧ Below w.heap.size w w' := by
  have hp := Kp.mk (show checkO o = 0 by exact checkO_nil ((okT_4 hk).2 ⟨c0, c1, c2, c3⟩))
  have eQ : ∀ w, (Op.equalIn 10000 34 (.agg #[.int .i64 o.f, .int .i64 o.p, .int .i64 o.t, .int .i64 o.q, .int .i64 o.z]) (.agg #[.int .i64 0, .int .i64 0, .int .i64 0, .int .i64 0, .int .i64 0])).run Tryz.prog w = .ok (eqQB o.f o.p o.t o.q o.z 0 0 0 0 0) w := fun w => eq_probe o.f o.p o.t o.q o.z 0 0 0 0 0 w
  have hba := below_alloc w (.cells #[.int .i64 o.k, .int .i64 o.n, .int .i64 o.m, .int .i64 o.r.k, .int .i64 o.r.pr, .int .i64 o.r.to, .int .i64 o.r.po, .int .i64 o.r.x.v, .int .i64 o.r.x.m, .int .u8 o.r.x.b0, .int .u8 o.r.x.b1, .int .u8 o.r.x.b2, .int .u8 o.r.x.i0, .int .u8 o.r.x.i1, .int .u8 o.r.x.i2, .slice A n c, .int .i64 o.f, .int .i64 o.p, .int .i64 o.t, .int .i64 o.q, .int .i64 o.z] 37)
  have hza : (w.alloc (.cells #[.int .i64 o.k, .int .i64 o.n, .int .i64 o.m, .int .i64 o.r.k, .int .i64 o.r.pr, .int .i64 o.r.to, .int .i64 o.r.po, .int .i64 o.r.x.v, .int .i64 o.r.x.m, .int .u8 o.r.x.b0, .int .u8 o.r.x.b1, .int .u8 o.r.x.b2, .int .u8 o.r.x.i0, .int .u8 o.r.x.i1, .int .u8 o.r.x.i2, .slice A n c, .int .i64 o.f, .int .i64 o.p, .int .i64 o.t, .int .i64 o.q, .int .i64 o.z] 37)).heap.size = w.heap.size + 1 := by simp
  have hxa : Vb 37 (w.alloc (.cells #[.int .i64 o.k, .int .i64 o.n, .int .i64 o.m, .int .i64 o.r.k, .int .i64 o.r.pr, .int .i64 o.r.to, .int .i64 o.r.po, .int .i64 o.r.x.v, .int .i64 o.r.x.m, .int .u8 o.r.x.b0, .int .u8 o.r.x.b1, .int .u8 o.r.x.b2, .int .u8 o.r.x.i0, .int .u8 o.r.x.i1, .int .u8 o.r.x.i2, .slice A n c, .int .i64 o.f, .int .i64 o.p, .int .i64 o.t, .int .i64 o.q, .int .i64 o.z] 37)) w.heap.size (ocl o (.slice A n c)) := Vb.new 37 w (ocl o (.slice A n c))
  have hA := h.below' hba hB
  have HK := Kp.mk hk
  clear hk
  go_enter Tryz.func12, Tryz.ntmps12
  go_upto_region 1 with fail
  generalize (w.alloc (.cells #[.int .i64 o.k, .int .i64 o.n, .int .i64 o.m, .int .i64 o.r.k, .int .i64 o.r.pr, .int .i64 o.r.to, .int .i64 o.r.po, .int .i64 o.r.x.v, .int .i64 o.r.x.m, .int .u8 o.r.x.b0, .int .u8 o.r.x.b1, .int .u8 o.r.x.b2, .int .u8 o.r.x.i0, .int .u8 o.r.x.i1, .int .u8 o.r.x.i2, .slice A n c, .int .i64 o.f, .int .i64 o.p, .int .i64 o.t, .int .i64 o.q, .int .i64 o.z] 37)) = wa at *
  obtain ⟨d0, d1, d2, d3, d4, d5, d6, d7, d8, d9, d10, d11, d12, d13, d14, d15, d16, d17, d18, d19, d20⟩ := hxa.ord
  rw [HK.out] at d0
  go_wp2_with fail
  refine (refZero_any o.r hA (by omega)).mono ?_
  rintro e w1 ⟨rfl, hb1⟩
  simp only [c0, c1, c2, c3]
  have hx1 := hxa.below hb1 (by omega)
  have hT1 := hba.trans (hb1.mono (by omega))
  have hz1 := hb1.size
  clear d0 d1 d2 d3 d4 d5 d6 d7 d8 d9 d10 d11 d12 d13 d14 d15 d16 d17 d18 d19 d20 hxa hb1
  obtain ⟨d0, d1, d2, d3, d4, d5, d6, d7, d8, d9, d10, d11, d12, d13, d14, d15, d16, d17, d18, d19, d20⟩ := hx1.ord
  rw [HK.out] at d0
  go_wp2_with (first | (go_at_call 38; refine (refIn_any _ _ _ _).mono ?_; rintro e w' ⟨rfl, rfl⟩; simp only [c0, c1, c2, c3]) | (go_at_call 37; refine (refIs_any _ _).mono ?_; rintro e w' ⟨rfl, rfl⟩))
  rw [hp.out]
  go_ret
  exact ⟨rfl, hT1⟩
set_option maxRecDepth 100000 in
set_option maxHeartbeats 1600000 in
theorem rc_5_2 {w : World} {B n c : Nat} {A : Option Addr} (o : OrdV) (h : Ro w B A n c o.r.os) (hB : B ≤ w.heap.size) (hk : o.k = 5) (c0 : (noneBo o.r) = true) (c1 : (eqQB o.f o.p o.t o.q o.z 0 0 0 0 0) = true) (c2' : (inB o.n 1 4) = false) : Calls Tryz.prog 12 #[.agg #[.int .i64 o.k, .int .i64 o.n, .int .i64 o.m, .int .i64 o.r.k, .int .i64 o.r.pr, .int .i64 o.r.to, .int .i64 o.r.po, .int .i64 o.r.x.v, .int .i64 o.r.x.m, .int .u8 o.r.x.b0, .int .u8 o.r.x.b1, .int .u8 o.r.x.b2, .int .u8 o.r.x.i0, .int .u8 o.r.x.i1, .int .u8 o.r.x.i2, .slice A n c, .int .i64 o.f, .int .i64 o.p, .int .i64 o.t, .int .i64 o.q, .int .i64 o.z]] w fun e w' => e = .returned (.int .i64 (checkO o)) ∧ Below w.heap.size w w' := by
  have hp := Kp.mk (show checkO o = 2 by exact checkO_two (fun hh => by have hh := (okT_5 hk).1 hh; obtain ⟨e0, e1, e2, e3⟩ := hh; rw [c2'] at e2; simp at e2))
  have eQ : ∀ w, (Op.equalIn 10000 34 (.agg #[.int .i64 o.f, .int .i64 o.p, .int .i64 o.t, .int .i64 o.q, .int .i64 o.z]) (.agg #[.int .i64 0, .int .i64 0, .int .i64 0, .int .i64 0, .int .i64 0])).run Tryz.prog w = .ok (eqQB o.f o.p o.t o.q o.z 0 0 0 0 0) w := fun w => eq_probe o.f o.p o.t o.q o.z 0 0 0 0 0 w
  have hba := below_alloc w (.cells #[.int .i64 o.k, .int .i64 o.n, .int .i64 o.m, .int .i64 o.r.k, .int .i64 o.r.pr, .int .i64 o.r.to, .int .i64 o.r.po, .int .i64 o.r.x.v, .int .i64 o.r.x.m, .int .u8 o.r.x.b0, .int .u8 o.r.x.b1, .int .u8 o.r.x.b2, .int .u8 o.r.x.i0, .int .u8 o.r.x.i1, .int .u8 o.r.x.i2, .slice A n c, .int .i64 o.f, .int .i64 o.p, .int .i64 o.t, .int .i64 o.q, .int .i64 o.z] 37)
  have hza : (w.alloc (.cells #[.int .i64 o.k, .int .i64 o.n, .int .i64 o.m, .int .i64 o.r.k, .int .i64 o.r.pr, .int .i64 o.r.to, .int .i64 o.r.po, .int .i64 o.r.x.v, .int .i64 o.r.x.m, .int .u8 o.r.x.b0, .int .u8 o.r.x.b1, .int .u8 o.r.x.b2, .int .u8 o.r.x.i0, .int .u8 o.r.x.i1, .int .u8 o.r.x.i2, .slice A n c, .int .i64 o.f, .int .i64 o.p, .int .i64 o.t, .int .i64 o.q, .int .i64 o.z] 37)).heap.size = w.heap.size + 1 := by simp
  have hxa : Vb 37 (w.alloc (.cells #[.int .i64 o.k, .int .i64 o.n, .int .i64 o.m, .int .i64 o.r.k, .int .i64 o.r.pr, .int .i64 o.r.to, .int .i64 o.r.po, .int .i64 o.r.x.v, .int .i64 o.r.x.m, .int .u8 o.r.x.b0, .int .u8 o.r.x.b1, .int .u8 o.r.x.b2, .int .u8 o.r.x.i0, .int .u8 o.r.x.i1, .int .u8 o.r.x.i2, .slice A n c, .int .i64 o.f, .int .i64 o.p, .int .i64 o.t, .int .i64 o.q, .int .i64 o.z] 37)) w.heap.size (ocl o (.slice A n c)) := Vb.new 37 w (ocl o (.slice A n c))
  have hA := h.below' hba hB
  have HK := Kp.mk hk
  clear hk
  go_enter Tryz.func12, Tryz.ntmps12
  go_upto_region 1 with fail
  generalize (w.alloc (.cells #[.int .i64 o.k, .int .i64 o.n, .int .i64 o.m, .int .i64 o.r.k, .int .i64 o.r.pr, .int .i64 o.r.to, .int .i64 o.r.po, .int .i64 o.r.x.v, .int .i64 o.r.x.m, .int .u8 o.r.x.b0, .int .u8 o.r.x.b1, .int .u8 o.r.x.b2, .int .u8 o.r.x.i0, .int .u8 o.r.x.i1, .int .u8 o.r.x.i2, .slice A n c, .int .i64 o.f, .int .i64 o.p, .int .i64 o.t, .int .i64 o.q, .int .i64 o.z] 37)) = wa at *
  obtain ⟨d0, d1, d2, d3, d4, d5, d6, d7, d8, d9, d10, d11, d12, d13, d14, d15, d16, d17, d18, d19, d20⟩ := hxa.ord
  rw [HK.out] at d0
  go_wp2_with fail
  refine (refZero_any o.r hA (by omega)).mono ?_
  rintro e w1 ⟨rfl, hb1⟩
  simp only [c0, c1, c2']
  have hx1 := hxa.below hb1 (by omega)
  have hT1 := hba.trans (hb1.mono (by omega))
  have hz1 := hb1.size
  clear d0 d1 d2 d3 d4 d5 d6 d7 d8 d9 d10 d11 d12 d13 d14 d15 d16 d17 d18 d19 d20 hxa hb1
  obtain ⟨d0, d1, d2, d3, d4, d5, d6, d7, d8, d9, d10, d11, d12, d13, d14, d15, d16, d17, d18, d19, d20⟩ := hx1.ord
  rw [HK.out] at d0
  go_wp2_with (first | (go_at_call 38; refine (refIn_any _ _ _ _).mono ?_; rintro e w' ⟨rfl, rfl⟩; simp only [c0, c1, c2']) | (go_at_call 37; refine (refIs_any _ _).mono ?_; rintro e w' ⟨rfl, rfl⟩))
  rw [hp.out]
  go_ret
  exact ⟨rfl, hT1⟩
set_option maxRecDepth 100000 in
set_option maxHeartbeats 1600000 in
theorem rc_5_3 {w : World} {B n c : Nat} {A : Option Addr} (o : OrdV) (h : Ro w B A n c o.r.os) (hB : B ≤ w.heap.size) (hk : o.k = 5) (c0 : (noneBo o.r) = true) (c1 : (eqQB o.f o.p o.t o.q o.z 0 0 0 0 0) = true) (c2 : (inB o.n 1 4) = true) (c3' : (inB o.m 0 65535) = false) : Calls Tryz.prog 12 #[.agg #[.int .i64 o.k, .int .i64 o.n, .int .i64 o.m, .int .i64 o.r.k, .int .i64 o.r.pr, .int .i64 o.r.to, .int .i64 o.r.po, .int .i64 o.r.x.v, .int .i64 o.r.x.m, .int .u8 o.r.x.b0, .int .u8 o.r.x.b1, .int .u8 o.r.x.b2, .int .u8 o.r.x.i0, .int .u8 o.r.x.i1, .int .u8 o.r.x.i2, .slice A n c, .int .i64 o.f, .int .i64 o.p, .int .i64 o.t, .int .i64 o.q, .int .i64 o.z]] w fun e w' => e = .returned (.int .i64 (checkO o)) ∧ Below w.heap.size w w' := by
  have hp := Kp.mk (show checkO o = 2 by exact checkO_two (fun hh => by have hh := (okT_5 hk).1 hh; obtain ⟨e0, e1, e2, e3⟩ := hh; rw [c3'] at e3; simp at e3))
  have eQ : ∀ w, (Op.equalIn 10000 34 (.agg #[.int .i64 o.f, .int .i64 o.p, .int .i64 o.t, .int .i64 o.q, .int .i64 o.z]) (.agg #[.int .i64 0, .int .i64 0, .int .i64 0, .int .i64 0, .int .i64 0])).run Tryz.prog w = .ok (eqQB o.f o.p o.t o.q o.z 0 0 0 0 0) w := fun w => eq_probe o.f o.p o.t o.q o.z 0 0 0 0 0 w
  have hba := below_alloc w (.cells #[.int .i64 o.k, .int .i64 o.n, .int .i64 o.m, .int .i64 o.r.k, .int .i64 o.r.pr, .int .i64 o.r.to, .int .i64 o.r.po, .int .i64 o.r.x.v, .int .i64 o.r.x.m, .int .u8 o.r.x.b0, .int .u8 o.r.x.b1, .int .u8 o.r.x.b2, .int .u8 o.r.x.i0, .int .u8 o.r.x.i1, .int .u8 o.r.x.i2, .slice A n c, .int .i64 o.f, .int .i64 o.p, .int .i64 o.t, .int .i64 o.q, .int .i64 o.z] 37)
  have hza : (w.alloc (.cells #[.int .i64 o.k, .int .i64 o.n, .int .i64 o.m, .int .i64 o.r.k, .int .i64 o.r.pr, .int .i64 o.r.to, .int .i64 o.r.po, .int .i64 o.r.x.v, .int .i64 o.r.x.m, .int .u8 o.r.x.b0, .int .u8 o.r.x.b1, .int .u8 o.r.x.b2, .int .u8 o.r.x.i0, .int .u8 o.r.x.i1, .int .u8 o.r.x.i2, .slice A n c, .int .i64 o.f, .int .i64 o.p, .int .i64 o.t, .int .i64 o.q, .int .i64 o.z] 37)).heap.size = w.heap.size + 1 := by simp
  have hxa : Vb 37 (w.alloc (.cells #[.int .i64 o.k, .int .i64 o.n, .int .i64 o.m, .int .i64 o.r.k, .int .i64 o.r.pr, .int .i64 o.r.to, .int .i64 o.r.po, .int .i64 o.r.x.v, .int .i64 o.r.x.m, .int .u8 o.r.x.b0, .int .u8 o.r.x.b1, .int .u8 o.r.x.b2, .int .u8 o.r.x.i0, .int .u8 o.r.x.i1, .int .u8 o.r.x.i2, .slice A n c, .int .i64 o.f, .int .i64 o.p, .int .i64 o.t, .int .i64 o.q, .int .i64 o.z] 37)) w.heap.size (ocl o (.slice A n c)) := Vb.new 37 w (ocl o (.slice A n c))
  have hA := h.below' hba hB
  have HK := Kp.mk hk
  clear hk
  go_enter Tryz.func12, Tryz.ntmps12
  go_upto_region 1 with fail
  generalize (w.alloc (.cells #[.int .i64 o.k, .int .i64 o.n, .int .i64 o.m, .int .i64 o.r.k, .int .i64 o.r.pr, .int .i64 o.r.to, .int .i64 o.r.po, .int .i64 o.r.x.v, .int .i64 o.r.x.m, .int .u8 o.r.x.b0, .int .u8 o.r.x.b1, .int .u8 o.r.x.b2, .int .u8 o.r.x.i0, .int .u8 o.r.x.i1, .int .u8 o.r.x.i2, .slice A n c, .int .i64 o.f, .int .i64 o.p, .int .i64 o.t, .int .i64 o.q, .int .i64 o.z] 37)) = wa at *
  obtain ⟨d0, d1, d2, d3, d4, d5, d6, d7, d8, d9, d10, d11, d12, d13, d14, d15, d16, d17, d18, d19, d20⟩ := hxa.ord
  rw [HK.out] at d0
  go_wp2_with fail
  refine (refZero_any o.r hA (by omega)).mono ?_
  rintro e w1 ⟨rfl, hb1⟩
  simp only [c0, c1, c2, c3']
  have hx1 := hxa.below hb1 (by omega)
  have hT1 := hba.trans (hb1.mono (by omega))
  have hz1 := hb1.size
  clear d0 d1 d2 d3 d4 d5 d6 d7 d8 d9 d10 d11 d12 d13 d14 d15 d16 d17 d18 d19 d20 hxa hb1
  obtain ⟨d0, d1, d2, d3, d4, d5, d6, d7, d8, d9, d10, d11, d12, d13, d14, d15, d16, d17, d18, d19, d20⟩ := hx1.ord
  rw [HK.out] at d0
  go_wp2_with (first | (go_at_call 38; refine (refIn_any _ _ _ _).mono ?_; rintro e w' ⟨rfl, rfl⟩; simp only [c0, c1, c2, c3']) | (go_at_call 37; refine (refIs_any _ _).mono ?_; rintro e w' ⟨rfl, rfl⟩))
  rw [hp.out]
  go_ret
  exact ⟨rfl, hT1⟩
set_option maxRecDepth 100000 in
set_option maxHeartbeats 1600000 in
theorem rc_5_ok {w : World} {B n c : Nat} {A : Option Addr} (o : OrdV) (h : Ro w B A n c o.r.os) (hB : B ≤ w.heap.size) (hk : o.k = 5) (c0 : (noneBo o.r) = true) (c1 : (eqQB o.f o.p o.t o.q o.z 0 0 0 0 0) = true) (c2 : (inB o.n 1 4) = true) (c3 : (inB o.m 0 65535) = true) : Calls Tryz.prog 12 #[.agg #[.int .i64 o.k, .int .i64 o.n, .int .i64 o.m, .int .i64 o.r.k, .int .i64 o.r.pr, .int .i64 o.r.to, .int .i64 o.r.po, .int .i64 o.r.x.v, .int .i64 o.r.x.m, .int .u8 o.r.x.b0, .int .u8 o.r.x.b1, .int .u8 o.r.x.b2, .int .u8 o.r.x.i0, .int .u8 o.r.x.i1, .int .u8 o.r.x.i2, .slice A n c, .int .i64 o.f, .int .i64 o.p, .int .i64 o.t, .int .i64 o.q, .int .i64 o.z]] w fun e w' => e = .returned (.int .i64 (checkO o)) ∧ Below w.heap.size w w' := by
  have hp := Kp.mk (show checkO o = 0 by exact checkO_nil ((okT_5 hk).2 ⟨c0, c1, c2, c3⟩))
  have eQ : ∀ w, (Op.equalIn 10000 34 (.agg #[.int .i64 o.f, .int .i64 o.p, .int .i64 o.t, .int .i64 o.q, .int .i64 o.z]) (.agg #[.int .i64 0, .int .i64 0, .int .i64 0, .int .i64 0, .int .i64 0])).run Tryz.prog w = .ok (eqQB o.f o.p o.t o.q o.z 0 0 0 0 0) w := fun w => eq_probe o.f o.p o.t o.q o.z 0 0 0 0 0 w
  have hba := below_alloc w (.cells #[.int .i64 o.k, .int .i64 o.n, .int .i64 o.m, .int .i64 o.r.k, .int .i64 o.r.pr, .int .i64 o.r.to, .int .i64 o.r.po, .int .i64 o.r.x.v, .int .i64 o.r.x.m, .int .u8 o.r.x.b0, .int .u8 o.r.x.b1, .int .u8 o.r.x.b2, .int .u8 o.r.x.i0, .int .u8 o.r.x.i1, .int .u8 o.r.x.i2, .slice A n c, .int .i64 o.f, .int .i64 o.p, .int .i64 o.t, .int .i64 o.q, .int .i64 o.z] 37)
  have hza : (w.alloc (.cells #[.int .i64 o.k, .int .i64 o.n, .int .i64 o.m, .int .i64 o.r.k, .int .i64 o.r.pr, .int .i64 o.r.to, .int .i64 o.r.po, .int .i64 o.r.x.v, .int .i64 o.r.x.m, .int .u8 o.r.x.b0, .int .u8 o.r.x.b1, .int .u8 o.r.x.b2, .int .u8 o.r.x.i0, .int .u8 o.r.x.i1, .int .u8 o.r.x.i2, .slice A n c, .int .i64 o.f, .int .i64 o.p, .int .i64 o.t, .int .i64 o.q, .int .i64 o.z] 37)).heap.size = w.heap.size + 1 := by simp
  have hxa : Vb 37 (w.alloc (.cells #[.int .i64 o.k, .int .i64 o.n, .int .i64 o.m, .int .i64 o.r.k, .int .i64 o.r.pr, .int .i64 o.r.to, .int .i64 o.r.po, .int .i64 o.r.x.v, .int .i64 o.r.x.m, .int .u8 o.r.x.b0, .int .u8 o.r.x.b1, .int .u8 o.r.x.b2, .int .u8 o.r.x.i0, .int .u8 o.r.x.i1, .int .u8 o.r.x.i2, .slice A n c, .int .i64 o.f, .int .i64 o.p, .int .i64 o.t, .int .i64 o.q, .int .i64 o.z] 37)) w.heap.size (ocl o (.slice A n c)) := Vb.new 37 w (ocl o (.slice A n c))
  have hA := h.below' hba hB
  have HK := Kp.mk hk
  clear hk
  go_enter Tryz.func12, Tryz.ntmps12
  go_upto_region 1 with fail
  generalize (w.alloc (.cells #[.int .i64 o.k, .int .i64 o.n, .int .i64 o.m, .int .i64 o.r.k, .int .i64 o.r.pr, .int .i64 o.r.to, .int .i64 o.r.po, .int .i64 o.r.x.v, .int .i64 o.r.x.m, .int .u8 o.r.x.b0, .int .u8 o.r.x.b1, .int .u8 o.r.x.b2, .int .u8 o.r.x.i0, .int .u8 o.r.x.i1, .int .u8 o.r.x.i2, .slice A n c, .int .i64 o.f, .int .i64 o.p, .int .i64 o.t, .int .i64 o.q, .int .i64 o.z] 37)) = wa at *
  obtain ⟨d0, d1, d2, d3, d4, d5, d6, d7, d8, d9, d10, d11, d12, d13, d14, d15, d16, d17, d18, d19, d20⟩ := hxa.ord
  rw [HK.out] at d0
  go_wp2_with fail
  refine (refZero_any o.r hA (by omega)).mono ?_
  rintro e w1 ⟨rfl, hb1⟩
  simp only [c0, c1, c2, c3]
  have hx1 := hxa.below hb1 (by omega)
  have hT1 := hba.trans (hb1.mono (by omega))
  have hz1 := hb1.size
  clear d0 d1 d2 d3 d4 d5 d6 d7 d8 d9 d10 d11 d12 d13 d14 d15 d16 d17 d18 d19 d20 hxa hb1
  obtain ⟨d0, d1, d2, d3, d4, d5, d6, d7, d8, d9, d10, d11, d12, d13, d14, d15, d16, d17, d18, d19, d20⟩ := hx1.ord
  rw [HK.out] at d0
  go_wp2_with (first | (go_at_call 38; refine (refIn_any _ _ _ _).mono ?_; rintro e w' ⟨rfl, rfl⟩; simp only [c0, c1, c2, c3]) | (go_at_call 37; refine (refIs_any _ _).mono ?_; rintro e w' ⟨rfl, rfl⟩))
  rw [hp.out]
  go_ret
  exact ⟨rfl, hT1⟩
set_option maxRecDepth 100000 in
set_option maxHeartbeats 1600000 in
theorem rc_6_2 {w : World} {B n c : Nat} {A : Option Addr} (o : OrdV) (h : Ro w B A n c o.r.os) (hB : B ≤ w.heap.size) (hk : o.k = 6) (c0 : (noneBo o.r) = true) (c1 : (eqQB o.f o.p o.t o.q o.z 0 0 0 0 0) = true) (c2' : (inB o.n 0 4294967295) = false) : Calls Tryz.prog 12 #[.agg #[.int .i64 o.k, .int .i64 o.n, .int .i64 o.m, .int .i64 o.r.k, .int .i64 o.r.pr, .int .i64 o.r.to, .int .i64 o.r.po, .int .i64 o.r.x.v, .int .i64 o.r.x.m, .int .u8 o.r.x.b0, .int .u8 o.r.x.b1, .int .u8 o.r.x.b2, .int .u8 o.r.x.i0, .int .u8 o.r.x.i1, .int .u8 o.r.x.i2, .slice A n c, .int .i64 o.f, .int .i64 o.p, .int .i64 o.t, .int .i64 o.q, .int .i64 o.z]] w fun e w' => e = .returned (.int .i64 (checkO o)) ∧ Below w.heap.size w w' := by
  have hp := Kp.mk (show checkO o = 2 by exact checkO_two (fun hh => by have hh := (okT_6 hk).1 hh; obtain ⟨e0, e1, e2, e3⟩ := hh; rw [c2'] at e2; simp at e2))
  have eQ : ∀ w, (Op.equalIn 10000 34 (.agg #[.int .i64 o.f, .int .i64 o.p, .int .i64 o.t, .int .i64 o.q, .int .i64 o.z]) (.agg #[.int .i64 0, .int .i64 0, .int .i64 0, .int .i64 0, .int .i64 0])).run Tryz.prog w = .ok (eqQB o.f o.p o.t o.q o.z 0 0 0 0 0) w := fun w => eq_probe o.f o.p o.t o.q o.z 0 0 0 0 0 w
  have hba := below_alloc w (.cells #[.int .i64 o.k, .int .i64 o.n, .int .i64 o.m, .int .i64 o.r.k, .int .i64 o.r.pr, .int .i64 o.r.to, .int .i64 o.r.po, .int .i64 o.r.x.v, .int .i64 o.r.x.m, .int .u8 o.r.x.b0, .int .u8 o.r.x.b1, .int .u8 o.r.x.b2, .int .u8 o.r.x.i0, .int .u8 o.r.x.i1, .int .u8 o.r.x.i2, .slice A n c, .int .i64 o.f, .int .i64 o.p, .int .i64 o.t, .int .i64 o.q, .int .i64 o.z] 37)
  have hza : (w.alloc (.cells #[.int .i64 o.k, .int .i64 o.n, .int .i64 o.m, .int .i64 o.r.k, .int .i64 o.r.pr, .int .i64 o.r.to, .int .i64 o.r.po, .int .i64 o.r.x.v, .int .i64 o.r.x.m, .int .u8 o.r.x.b0, .int .u8 o.r.x.b1, .int .u8 o.r.x.b2, .int .u8 o.r.x.i0, .int .u8 o.r.x.i1, .int .u8 o.r.x.i2, .slice A n c, .int .i64 o.f, .int .i64 o.p, .int .i64 o.t, .int .i64 o.q, .int .i64 o.z] 37)).heap.size = w.heap.size + 1 := by simp
  have hxa : Vb 37 (w.alloc (.cells #[.int .i64 o.k, .int .i64 o.n, .int .i64 o.m, .int .i64 o.r.k, .int .i64 o.r.pr, .int .i64 o.r.to, .int .i64 o.r.po, .int .i64 o.r.x.v, .int .i64 o.r.x.m, .int .u8 o.r.x.b0, .int .u8 o.r.x.b1, .int .u8 o.r.x.b2, .int .u8 o.r.x.i0, .int .u8 o.r.x.i1, .int .u8 o.r.x.i2, .slice A n c, .int .i64 o.f, .int .i64 o.p, .int .i64 o.t, .int .i64 o.q, .int .i64 o.z] 37)) w.heap.size (ocl o (.slice A n c)) := Vb.new 37 w (ocl o (.slice A n c))
  have hA := h.below' hba hB
  have HK := Kp.mk hk
  clear hk
  go_enter Tryz.func12, Tryz.ntmps12
  go_upto_region 1 with fail
  generalize (w.alloc (.cells #[.int .i64 o.k, .int .i64 o.n, .int .i64 o.m, .int .i64 o.r.k, .int .i64 o.r.pr, .int .i64 o.r.to, .int .i64 o.r.po, .int .i64 o.r.x.v, .int .i64 o.r.x.m, .int .u8 o.r.x.b0, .int .u8 o.r.x.b1, .int .u8 o.r.x.b2, .int .u8 o.r.x.i0, .int .u8 o.r.x.i1, .int .u8 o.r.x.i2, .slice A n c, .int .i64 o.f, .int .i64 o.p, .int .i64 o.t, .int .i64 o.q, .int .i64 o.z] 37)) = wa at *
  obtain ⟨d0, d1, d2, d3, d4, d5, d6, d7, d8, d9, d10, d11, d12, d13, d14, d15, d16, d17, d18, d19, d20⟩ := hxa.ord
  rw [HK.out] at d0
  go_wp2_with fail
  refine (refZero_any o.r hA (by omega)).mono ?_
  rintro e w1 ⟨rfl, hb1⟩
  simp only [c0, c1, c2']
  have hx1 := hxa.below hb1 (by omega)
  have hT1 := hba.trans (hb1.mono (by omega))
  have hz1 := hb1.size
  clear d0 d1 d2 d3 d4 d5 d6 d7 d8 d9 d10 d11 d12 d13 d14 d15 d16 d17 d18 d19 d20 hxa hb1
  obtain ⟨d0, d1, d2, d3, d4, d5, d6, d7, d8, d9, d10, d11, d12, d13, d14, d15, d16, d17, d18, d19, d20⟩ := hx1.ord
  rw [HK.out] at d0
  go_wp2_with (first | (go_at_call 38; refine (refIn_any _ _ _ _).mono ?_; rintro e w' ⟨rfl, rfl⟩; simp only [c0, c1, c2']) | (go_at_call 37; refine (refIs_any _ _).mono ?_; rintro e w' ⟨rfl, rfl⟩))
  rw [hp.out]
  go_ret
  exact ⟨rfl, hT1⟩
set_option maxRecDepth 100000 in
set_option maxHeartbeats 1600000 in
theorem rc_6_3 {w : World} {B n c : Nat} {A : Option Addr} (o : OrdV) (h : Ro w B A n c o.r.os) (hB : B ≤ w.heap.size) (hk : o.k = 6) (c0 : (noneBo o.r) = true) (c1 : (eqQB o.f o.p o.t o.q o.z 0 0 0 0 0) = true) (c2 : (inB o.n 0 4294967295) = true) (c3' : (o.m == 0) = false) : Calls Tryz.prog 12 #[.agg #[.int .i64 o.k, .int .i64 o.n, .int .i64 o.m, .int .i64 o.r.k, .int .i64 o.r.pr, .int .i64 o.r.to, .int .i64 o.r.po, .int .i64 o.r.x.v, .int .i64 o.r.x.m, .int .u8 o.r.x.b0, .int .u8 o.r.x.b1, .int .u8 o.r.x.b2, .int .u8 o.r.x.i0, .int .u8 o.r.x.i1, .int .u8 o.r.x.i2, .slice A n c, .int .i64 o.f, .int .i64 o.p, .int .i64 o.t, .int .i64 o.q, .int .i64 o.z]] w fun e w' => e = .returned (.int .i64 (checkO o)) ∧ Below w.heap.size w w' := by
  have hp := Kp.mk (show checkO o = 2 by exact checkO_two (fun hh => by have hh := (okT_6 hk).1 hh; obtain ⟨e0, e1, e2, e3⟩ := hh; rw [c3'] at e3; simp at e3))
  have eQ : ∀ w, (Op.equalIn 10000 34 (.agg #[.int .i64 o.f, .int .i64 o.p, .int .i64 o.t, .int .i64 o.q, .int .i64 o.z]) (.agg #[.int .i64 0, .int .i64 0, .int .i64 0, .int .i64 0, .int .i64 0])).run Tryz.prog w = .ok (eqQB o.f o.p o.t o.q o.z 0 0 0 0 0) w := fun w => eq_probe o.f o.p o.t o.q o.z 0 0 0 0 0 w
  have hba := below_alloc w (.cells #[.int .i64 o.k, .int .i64 o.n, .int .i64 o.m, .int .i64 o.r.k, .int .i64 o.r.pr, .int .i64 o.r.to, .int .i64 o.r.po, .int .i64 o.r.x.v, .int .i64 o.r.x.m, .int .u8 o.r.x.b0, .int .u8 o.r.x.b1, .int .u8 o.r.x.b2, .int .u8 o.r.x.i0, .int .u8 o.r.x.i1, .int .u8 o.r.x.i2, .slice A n c, .int .i64 o.f, .int .i64 o.p, .int .i64 o.t, .int .i64 o.q, .int .i64 o.z] 37)
  have hza : (w.alloc (.cells #[.int .i64 o.k, .int .i64 o.n, .int .i64 o.m, .int .i64 o.r.k, .int .i64 o.r.pr, .int .i64 o.r.to, .int .i64 o.r.po, .int .i64 o.r.x.v, .int .i64 o.r.x.m, .int .u8 o.r.x.b0, .int .u8 o.r.x.b1, .int .u8 o.r.x.b2, .int .u8 o.r.x.i0, .int .u8 o.r.x.i1, .int .u8 o.r.x.i2, .slice A n c, .int .i64 o.f, .int .i64 o.p, .int .i64 o.t, .int .i64 o.q, .int .i64 o.z] 37)).heap.size = w.heap.size + 1 := by simp
  have hxa : Vb 37 (w.alloc (.cells #[.int .i64 o.k, .int .i64 o.n, .int .i64 o.m, .int .i64 o.r.k, .int .i64 o.r.pr, .int .i64 o.r.to, .int .i64 o.r.po, .int .i64 o.r.x.v, .int .i64 o.r.x.m, .int .u8 o.r.x.b0, .int .u8 o.r.x.b1, .int .u8 o.r.x.b2, .int .u8 o.r.x.i0, .int .u8 o.r.x.i1, .int .u8 o.r.x.i2, .slice A n c, .int .i64 o.f, .int .i64 o.p, .int .i64 o.t, .int .i64 o.q, .int .i64 o.z] 37)) w.heap.size (ocl o (.slice A n c)) := Vb.new 37 w (ocl o (.slice A n c))
  have hA := h.below' hba hB
  have HK := Kp.mk hk
  clear hk
  go_enter Tryz.func12, Tryz.ntmps12
  go_upto_region 1 with fail
  generalize (w.alloc (.cells #[.int .i64 o.k, .int .i64 o.n, .int .i64 o.m, .int .i64 o.r.k, .int .i64 o.r.pr, .int .i64 o.r.to, .int .i64 o.r.po, .int .i64 o.r.x.v, .int .i64 o.r.x.m, .int .u8 o.r.x.b0, .int .u8 o.r.x.b1, .int .u8 o.r.x.b2, .int .u8 o.r.x.i0, .int .u8 o.r.x.i1, .int .u8 o.r.x.i2, .slice A n c, .int .i64 o.f, .int .i64 o.p, .int .i64 o.t, .int .i64 o.q, .int .i64 o.z] 37)) = wa at *
  obtain ⟨d0, d1, d2, d3, d4, d5, d6, d7, d8, d9, d10, d11, d12, d13, d14, d15, d16, d17, d18, d19, d20⟩ := hxa.ord
  rw [HK.out] at d0
  go_wp2_with fail
  refine (refZero_any o.r hA (by omega)).mono ?_
  rintro e w1 ⟨rfl, hb1⟩
  simp only [c0, c1, c2, c3']
  have hx1 := hxa.below hb1 (by omega)
  have hT1 := hba.trans (hb1.mono (by omega))
  have hz1 := hb1.size
  clear d0 d1 d2 d3 d4 d5 d6 d7 d8 d9 d10 d11 d12 d13 d14 d15 d16 d17 d18 d19 d20 hxa hb1
  obtain ⟨d0, d1, d2, d3, d4, d5, d6, d7, d8, d9, d10, d11, d12, d13, d14, d15, d16, d17, d18, d19, d20⟩ := hx1.ord
  rw [HK.out] at d0
  go_wp2_with (first | (go_at_call 38; refine (refIn_any _ _ _ _).mono ?_; rintro e w' ⟨rfl, rfl⟩; simp only [c0, c1, c2, c3']) | (go_at_call 37; refine (refIs_any _ _).mono ?_; rintro e w' ⟨rfl, rfl⟩))
  rw [hp.out]
  go_ret
  exact ⟨rfl, hT1⟩
set_option maxRecDepth 100000 in
set_option maxHeartbeats 1600000 in
theorem rc_6_ok {w : World} {B n c : Nat} {A : Option Addr} (o : OrdV) (h : Ro w B A n c o.r.os) (hB : B ≤ w.heap.size) (hk : o.k = 6) (c0 : (noneBo o.r) = true) (c1 : (eqQB o.f o.p o.t o.q o.z 0 0 0 0 0) = true) (c2 : (inB o.n 0 4294967295) = true) (c3 : (o.m == 0) = true) : Calls Tryz.prog 12 #[.agg #[.int .i64 o.k, .int .i64 o.n, .int .i64 o.m, .int .i64 o.r.k, .int .i64 o.r.pr, .int .i64 o.r.to, .int .i64 o.r.po, .int .i64 o.r.x.v, .int .i64 o.r.x.m, .int .u8 o.r.x.b0, .int .u8 o.r.x.b1, .int .u8 o.r.x.b2, .int .u8 o.r.x.i0, .int .u8 o.r.x.i1, .int .u8 o.r.x.i2, .slice A n c, .int .i64 o.f, .int .i64 o.p, .int .i64 o.t, .int .i64 o.q, .int .i64 o.z]] w fun e w' => e = .returned (.int .i64 (checkO o)) ∧ Below w.heap.size w w' := by
  have hp := Kp.mk (show checkO o = 0 by exact checkO_nil ((okT_6 hk).2 ⟨c0, c1, c2, c3⟩))
  have eQ : ∀ w, (Op.equalIn 10000 34 (.agg #[.int .i64 o.f, .int .i64 o.p, .int .i64 o.t, .int .i64 o.q, .int .i64 o.z]) (.agg #[.int .i64 0, .int .i64 0, .int .i64 0, .int .i64 0, .int .i64 0])).run Tryz.prog w = .ok (eqQB o.f o.p o.t o.q o.z 0 0 0 0 0) w := fun w => eq_probe o.f o.p o.t o.q o.z 0 0 0 0 0 w
  have hba := below_alloc w (.cells #[.int .i64 o.k, .int .i64 o.n, .int .i64 o.m, .int .i64 o.r.k, .int .i64 o.r.pr, .int .i64 o.r.to, .int .i64 o.r.po, .int .i64 o.r.x.v, .int .i64 o.r.x.m, .int .u8 o.r.x.b0, .int .u8 o.r.x.b1, .int .u8 o.r.x.b2, .int .u8 o.r.x.i0, .int .u8 o.r.x.i1, .int .u8 o.r.x.i2, .slice A n c, .int .i64 o.f, .int .i64 o.p, .int .i64 o.t, .int .i64 o.q, .int .i64 o.z] 37)
  have hza : (w.alloc (.cells #[.int .i64 o.k, .int .i64 o.n, .int .i64 o.m, .int .i64 o.r.k, .int .i64 o.r.pr, .int .i64 o.r.to, .int .i64 o.r.po, .int .i64 o.r.x.v, .int .i64 o.r.x.m, .int .u8 o.r.x.b0, .int .u8 o.r.x.b1, .int .u8 o.r.x.b2, .int .u8 o.r.x.i0, .int .u8 o.r.x.i1, .int .u8 o.r.x.i2, .slice A n c, .int .i64 o.f, .int .i64 o.p, .int .i64 o.t, .int .i64 o.q, .int .i64 o.z] 37)).heap.size = w.heap.size + 1 := by simp
  have hxa : Vb 37 (w.alloc (.cells #[.int .i64 o.k, .int .i64 o.n, .int .i64 o.m, .int .i64 o.r.k, .int .i64 o.r.pr, .int .i64 o.r.to, .int .i64 o.r.po, .int .i64 o.r.x.v, .int .i64 o.r.x.m, .int .u8 o.r.x.b0, .int .u8 o.r.x.b1, .int .u8 o.r.x.b2, .int .u8 o.r.x.i0, .int .u8 o.r.x.i1, .int .u8 o.r.x.i2, .slice A n c, .int .i64 o.f, .int .i64 o.p, .int .i64 o.t, .int .i64 o.q, .int .i64 o.z] 37)) w.heap.size (ocl o (.slice A n c)) := Vb.new 37 w (ocl o (.slice A n c))
  have hA := h.below' hba hB
  have HK := Kp.mk hk
  clear hk
  go_enter Tryz.func12, Tryz.ntmps12
  go_upto_region 1 with fail
  generalize (w.alloc (.cells #[.int .i64 o.k, .int .i64 o.n, .int .i64 o.m, .int .i64 o.r.k, .int .i64 o.r.pr, .int .i64 o.r.to, .int .i64 o.r.po, .int .i64 o.r.x.v, .int .i64 o.r.x.m, .int .u8 o.r.x.b0, .int .u8 o.r.x.b1, .int .u8 o.r.x.b2, .int .u8 o.r.x.i0, .int .u8 o.r.x.i1, .int .u8 o.r.x.i2, .slice A n c, .int .i64 o.f, .int .i64 o.p, .int .i64 o.t, .int .i64 o.q, .int .i64 o.z] 37)) = wa at *
  obtain ⟨d0, d1, d2, d3, d4, d5, d6, d7, d8, d9, d10, d11, d12, d13, d14, d15, d16, d17, d18, d19, d20⟩ := hxa.ord
  rw [HK.out] at d0
  go_wp2_with fail
  refine (refZero_any o.r hA (by omega)).mono ?_
  rintro e w1 ⟨rfl, hb1⟩
  simp only [c0, c1, c2, c3]
  have hx1 := hxa.below hb1 (by omega)
  have hT1 := hba.trans (hb1.mono (by omega))
  have hz1 := hb1.size
  clear d0 d1 d2 d3 d4 d5 d6 d7 d8 d9 d10 d11 d12 d13 d14 d15 d16 d17 d18 d19 d20 hxa hb1
  obtain ⟨d0, d1, d2, d3, d4, d5, d6, d7, d8, d9, d10, d11, d12, d13, d14, d15, d16, d17, d18, d19, d20⟩ := hx1.ord
  rw [HK.out] at d0
  go_wp2_with (first | (go_at_call 38; refine (refIn_any _ _ _ _).mono ?_; rintro e w' ⟨rfl, rfl⟩; simp only [c0, c1, c2, c3]) | (go_at_call 37; refine (refIs_any _ _).mono ?_; rintro e w' ⟨rfl, rfl⟩))
  rw [hp.out]
  go_ret
  exact ⟨rfl, hT1⟩
set_option maxRecDepth 100000 in
set_option maxHeartbeats 1600000 in
theorem rc_7_2 {w : World} {B n c : Nat} {A : Option Addr} (o : OrdV) (h : Ro w B A n c o.r.os) (hB : B ≤ w.heap.size) (hk : o.k = 7) (c0 : (noneBo o.r) = true) (c1 : (eqQB o.f o.p o.t o.q o.z 0 0 0 0 0) = true) (c2' : (inB o.n 0 4294967295) = false) : Calls Tryz.prog 12 #[.agg #[.int .i64 o.k, .int .i64 o.n, .int .i64 o.m, .int .i64 o.r.k, .int .i64 o.r.pr, .int .i64 o.r.to, .int .i64 o.r.po, .int .i64 o.r.x.v, .int .i64 o.r.x.m, .int .u8 o.r.x.b0, .int .u8 o.r.x.b1, .int .u8 o.r.x.b2, .int .u8 o.r.x.i0, .int .u8 o.r.x.i1, .int .u8 o.r.x.i2, .slice A n c, .int .i64 o.f, .int .i64 o.p, .int .i64 o.t, .int .i64 o.q, .int .i64 o.z]] w fun e w' => e = .returned (.int .i64 (checkO o)) ∧ Below w.heap.size w w' := by
  have hp := Kp.mk (show checkO o = 2 by exact checkO_two (fun hh => by have hh := (okT_7 hk).1 hh; obtain ⟨e0, e1, e2, e3⟩ := hh; rw [c2'] at e2; simp at e2))
  have eQ : ∀ w, (Op.equalIn 10000 34 (.agg #[.int .i64 o.f, .int .i64 o.p, .int .i64 o.t, .int .i64 o.q, .int .i64 o.z]) (.agg #[.int .i64 0, .int .i64 0, .int .i64 0, .int .i64 0, .int .i64 0])).run Tryz.prog w = .ok (eqQB o.f o.p o.t o.q o.z 0 0 0 0 0) w := fun w => eq_probe o.f o.p o.t o.q o.z 0 0 0 0 0 w
  have hba := below_alloc w (.cells #[.int .i64 o.k, .int .i64 o.n, .int .i64 o.m, .int .i64 o.r.k, .int .i64 o.r.pr, .int .i64 o.r.to, .int .i64 o.r.po, .int .i64 o.r.x.v, .int .i64 o.r.x.m, .int .u8 o.r.x.b0, .int .u8 o.r.x.b1, .int .u8 o.r.x.b2, .int .u8 o.r.x.i0, .int .u8 o.r.x.i1, .int .u8 o.r.x.i2, .slice A n c, .int .i64 o.f, .int .i64 o.p, .int .i64 o.t, .int .i64 o.q, .int .i64 o.z] 37)
  have hza : (w.alloc (.cells #[.int .i64 o.k, .int .i64 o.n, .int .i64 o.m, .int .i64 o.r.k, .int .i64 o.r.pr, .int .i64 o.r.to, .int .i64 o.r.po, .int .i64 o.r.x.v, .int .i64 o.r.x.m, .int .u8 o.r.x.b0, .int .u8 o.r.x.b1, .int .u8 o.r.x.b2, .int .u8 o.r.x.i0, .int .u8 o.r.x.i1, .int .u8 o.r.x.i2, .slice A n c, .int .i64 o.f, .int .i64 o.p, .int .i64 o.t, .int .i64 o.q, .int .i64 o.z] 37)).heap.size = w.heap.size + 1 := by simp
  have hxa : Vb 37 (w.alloc (.cells #[.int .i64 o.k, .int .i64 o.n, .int .i64 o.m, .int .i64 o.r.k, .int .i64 o.r.pr, .int .i64 o.r.to, .int .i64 o.r.po, .int .i64 o.r.x.v, .int .i64 o.r.x.m, .int .u8 o.r.x.b0, .int .u8 o.r.x.b1, .int .u8 o.r.x.b2, .int .u8 o.r.x.i0, .int .u8 o.r.x.i1, .int .u8 o.r.x.i2, .slice A n c, .int .i64 o.f, .int .i64 o.p, .int .i64 o.t, .int .i64 o.q, .int .i64 o.z] 37)) w.heap.size (ocl o (.slice A n c)) := Vb.new 37 w (ocl o (.slice A n c))
  have hA := h.below' hba hB
  have HK := Kp.mk hk
  clear hk
  go_enter Tryz.func12, Tryz.ntmps12
  go_upto_region 1 with fail
  generalize (w.alloc (.cells #[.int .i64 o.k, .int .i64 o.n, .int .i64 o.m, .int .i64 o.r.k, .int .i64 o.r.pr, .int .i64 o.r.to, .int .i64 o.r.po, .int .i64 o.r.x.v, .int .i64 o.r.x.m, .int .u8 o.r.x.b0, .int .u8 o.r.x.b1, .int .u8 o.r.x.b2, .int .u8 o.r.x.i0, .int .u8 o.r.x.i1, .int .u8 o.r.x.i2, .slice A n c, .int .i64 o.f, .int .i64 o.p, .int .i64 o.t, .int .i64 o.q, .int .i64 o.z] 37)) = wa at *
  obtain ⟨d0, d1, d2, d3, d4, d5, d6, d7, d8, d9, d10, d11, d12, d13, d14, d15, d16, d17, d18, d19, d20⟩ := hxa.ord
  rw [HK.out] at d0
  go_wp2_with fail
  refine (refZero_any o.r hA (by omega)).mono ?_
  rintro e w1 ⟨rfl, hb1⟩
  simp only [c0, c1, c2']
  have hx1 := hxa.below hb1 (by omega)
  have hT1 := hba.trans (hb1.mono (by omega))
  have hz1 := hb1.size
  clear d0 d1 d2 d3 d4 d5 d6 d7 d8 d9 d10 d11 d12 d13 d14 d15 d16 d17 d18 d19 d20 hxa hb1
  obtain ⟨d0, d1, d2, d3, d4, d5, d6, d7, d8, d9, d10, d11, d12, d13, d14, d15, d16, d17, d18, d19, d20⟩ := hx1.ord
  rw [HK.out] at d0
  go_wp2_with (first | (go_at_call 38; refine (refIn_any _ _ _ _).mono ?_; rintro e w' ⟨rfl, rfl⟩; simp only [c0, c1, c2']) | (go_at_call 37; refine (refIs_any _ _).mono ?_; rintro e w' ⟨rfl, rfl⟩))
  rw [hp.out]
  go_ret
  exact ⟨rfl, hT1⟩
set_option maxRecDepth 100000 in
set_option maxHeartbeats 1600000 in
theorem rc_7_3 {w : World} {B n c : Nat} {A : Option Addr} (o : OrdV) (h : Ro w B A n c o.r.os) (hB : B ≤ w.heap.size) (hk : o.k = 7) (c0 : (noneBo o.r) = true) (c1 : (eqQB o.f o.p o.t o.q o.z 0 0 0 0 0) = true) (c2 : (inB o.n 0 4294967295) = true) (c3' : (inB o.m 0 65535) = false) : Calls Tryz.prog 12 #[.agg #[.int .i64 o.k, .int .i64 o.n, .int .i64 o.m, .int .i64 o.r.k, .int .i64 o.r.pr, .int .i64 o.r.to, .int .i64 o.r.po, .int .i64 o.r.x.v, .int .i64 o.r.x.m, .int .u8 o.r.x.b0, .int .u8 o.r.x.b1, .int .u8 o.r.x.b2, .int .u8 o.r.x.i0, .int .u8 o.r.x.i1, .int .u8 o.r.x.i2, .slice A n c, .int .i64 o.f, .int .i64 o.p, .int .i64 o.t, .int .i64 o.q, .int .i64 o.z]] w fun e w' => e = .returned (.int .i64 (checkO o)) ∧ Below w.heap.size w w' := by
  have hp := Kp.mk (show checkO o = 2 by exact checkO_two (fun hh => by have hh := (okT_7 hk).1 hh; obtain ⟨e0, e1, e2, e3⟩ := hh; rw [c3'] at e3; simp at e3))
  have eQ : ∀ w, (Op.equalIn 10000 34 (.agg #[.int .i64 o.f, .int .i64 o.p, .int .i64 o.t, .int .i64 o.q, .int .i64 o.z]) (.agg #[.int .i64 0, .int .i64 0, .int .i64 0, .int .i64 0, .int .i64 0])).run Tryz.prog w = .ok (eqQB o.f o.p o.t o.q o.z 0 0 0 0 0) w := fun w => eq_probe o.f o.p o.t o.q o.z 0 0 0 0 0 w
  have hba := below_alloc w (.cells #[.int .i64 o.k, .int .i64 o.n, .int .i64 o.m, .int .i64 o.r.k, .int .i64 o.r.pr, .int .i64 o.r.to, .int .i64 o.r.po, .int .i64 o.r.x.v, .int .i64 o.r.x.m, .int .u8 o.r.x.b0, .int .u8 o.r.x.b1, .int .u8 o.r.x.b2, .int .u8 o.r.x.i0, .int .u8 o.r.x.i1, .int .u8 o.r.x.i2, .slice A n c, .int .i64 o.f, .int .i64 o.p, .int .i64 o.t, .int .i64 o.q, .int .i64 o.z] 37)
  have hza : (w.alloc (.cells #[.int .i64 o.k, .int .i64 o.n, .int .i64 o.m, .int .i64 o.r.k, .int .i64 o.r.pr, .int .i64 o.r.to, .int .i64 o.r.po, .int .i64 o.r.x.v, .int .i64 o.r.x.m, .int .u8 o.r.x.b0, .int .u8 o.r.x.b1, .int .u8 o.r.x.b2, .int .u8 o.r.x.i0, .int .u8 o.r.x.i1, .int .u8 o.r.x.i2, .slice A n c, .int .i64 o.f, .int .i64 o.p, .int .i64 o.t, .int .i64 o.q, .int .i64 o.z] 37)).heap.size = w.heap.size + 1 := by simp
  have hxa : Vb 37 (w.alloc (.cells #[.int .i64 o.k, .int .i64 o.n, .int .i64 o.m, .int .i64 o.r.k, .int .i64 o.r.pr, .int .i64 o.r.to, .int .i64 o.r.po, .int .i64 o.r.x.v, .int .i64 o.r.x.m, .int .u8 o.r.x.b0, .int .u8 o.r.x.b1, .int .u8 o.r.x.b2, .int .u8 o.r.x.i0, .int .u8 o.r.x.i1, .int .u8 o.r.x.i2, .slice A n c, .int .i64 o.f, .int .i64 o.p, .int .i64 o.t, .int .i64 o.q, .int .i64 o.z] 37)) w.heap.size (ocl o (.slice A n c)) := Vb.new 37 w (ocl o (.slice A n c))
  have hA := h.below' hba hB
  have HK := Kp.mk hk
  clear hk
  go_enter Tryz.func12, Tryz.ntmps12
  go_upto_region 1 with fail
  generalize (w.alloc (.cells #[.int .i64 o.k, .int .i64 o.n, .int .i64 o.m, .int .i64 o.r.k, .int .i64 o.r.pr, .int .i64 o.r.to, .int .i64 o.r.po, .int .i64 o.r.x.v, .int .i64 o.r.x.m, .int .u8 o.r.x.b0, .int .u8 o.r.x.b1, .int .u8 o.r.x.b2, .int .u8 o.r.x.i0, .int .u8 o.r.x.i1, .int .u8 o.r.x.i2, .slice A n c, .int .i64 o.f, .int .i64 o.p, .int .i64 o.t, .int .i64 o.q, .int .i64 o.z] 37)) = wa at *
  obtain ⟨d0, d1, d2, d3, d4, d5, d6, d7, d8, d9, d10, d11, d12, d13, d14, d15, d16, d17, d18, d19, d20⟩ := hxa.ord
  rw [HK.out] at d0
  go_wp2_with fail
  refine (refZero_any o.r hA (by omega)).mono ?_
  rintro e w1 ⟨rfl, hb1⟩
  simp only [c0, c1, c2, c3']
  have hx1 := hxa.below hb1 (by omega)
  have hT1 := hba.trans (hb1.mono (by omega))
  have hz1 := hb1.size
  clear d0 d1 d2 d3 d4 d5 d6 d7 d8 d9 d10 d11 d12 d13 d14 d15 d16 d17 d18 d19 d20 hxa hb1
  obtain ⟨d0, d1, d2, d3, d4, d5, d6, d7, d8, d9, d10, d11, d12, d13, d14, d15, d16, d17, d18, d19, d20⟩ := hx1.ord
  rw [HK.out] at d0
  go_wp2_with (first | (go_at_call 38; refine (refIn_any _ _ _ _).mono ?_; rintro e w' ⟨rfl, rfl⟩; simp only [c0, c1, c2, c3']) | (go_at_call 37; refine (refIs_any _ _).mono ?_; rintro e w' ⟨rfl, rfl⟩))
  rw [hp.out]
  go_ret
  exact ⟨rfl, hT1⟩
set_option maxRecDepth 100000 in
set_option maxHeartbeats 1600000 in
theorem rc_7_ok {w : World} {B n c : Nat} {A : Option Addr} (o : OrdV) (h : Ro w B A n c o.r.os) (hB : B ≤ w.heap.size) (hk : o.k = 7) (c0 : (noneBo o.r) = true) (c1 : (eqQB o.f o.p o.t o.q o.z 0 0 0 0 0) = true) (c2 : (inB o.n 0 4294967295) = true) (c3 : (inB o.m 0 65535) = true) : Calls Tryz.prog 12 #[.agg #[.int .i64 o.k, .int .i64 o.n, .int .i64 o.m, .int .i64 o.r.k, .int .i64 o.r.pr, .int .i64 o.r.to, .int .i64 o.r.po, .int .i64 o.r.x.v, .int .i64 o.r.x.m, .int .u8 o.r.x.b0, .int .u8 o.r.x.b1, .int .u8 o.r.x.b2, .int .u8 o.r.x.i0, .int .u8 o.r.x.i1, .int .u8 o.r.x.i2, .slice A n c, .int .i64 o.f, .int .i64 o.p, .int .i64 o.t, .int .i64 o.q, .int .i64 o.z]] w fun e w' => e = .returned (.int .i64 (checkO o)) ∧ Below w.heap.size w w' := by
  have hp := Kp.mk (show checkO o = 0 by exact checkO_nil ((okT_7 hk).2 ⟨c0, c1, c2, c3⟩))
  have eQ : ∀ w, (Op.equalIn 10000 34 (.agg #[.int .i64 o.f, .int .i64 o.p, .int .i64 o.t, .int .i64 o.q, .int .i64 o.z]) (.agg #[.int .i64 0, .int .i64 0, .int .i64 0, .int .i64 0, .int .i64 0])).run Tryz.prog w = .ok (eqQB o.f o.p o.t o.q o.z 0 0 0 0 0) w := fun w => eq_probe o.f o.p o.t o.q o.z 0 0 0 0 0 w
  have hba := below_alloc w (.cells #[.int .i64 o.k, .int .i64 o.n, .int .i64 o.m, .int .i64 o.r.k, .int .i64 o.r.pr, .int .i64 o.r.to, .int .i64 o.r.po, .int .i64 o.r.x.v, .int .i64 o.r.x.m, .int .u8 o.r.x.b0, .int .u8 o.r.x.b1, .int .u8 o.r.x.b2, .int .u8 o.r.x.i0, .int .u8 o.r.x.i1, .int .u8 o.r.x.i2, .slice A n c, .int .i64 o.f, .int .i64 o.p, .int .i64 o.t, .int .i64 o.q, .int .i64 o.z] 37)
  have hza : (w.alloc (.cells #[.int .i64 o.k, .int .i64 o.n, .int .i64 o.m, .int .i64 o.r.k, .int .i64 o.r.pr, .int .i64 o.r.to, .int .i64 o.r.po, .int .i64 o.r.x.v, .int .i64 o.r.x.m, .int .u8 o.r.x.b0, .int .u8 o.r.x.b1, .int .u8 o.r.x.b2, .int .u8 o.r.x.i0, .int .u8 o.r.x.i1, .int .u8 o.r.x.i2, .slice A n c, .int .i64 o.f, .int .i64 o.p, .int .i64 o.t, .int .i64 o.q, .int .i64 o.z] 37)).heap.size = w.heap.size + 1 := by simp
  have hxa : Vb 37 (w.alloc (.cells #[.int .i64 o.k, .int .i64 o.n, .int .i64 o.m, .int .i64 o.r.k, .int .i64 o.r.pr, .int .i64 o.r.to, .int .i64 o.r.po, .int .i64 o.r.x.v, .int .i64 o.r.x.m, .int .u8 o.r.x.b0, .int .u8 o.r.x.b1, .int .u8 o.r.x.b2, .int .u8 o.r.x.i0, .int .u8 o.r.x.i1, .int .u8 o.r.x.i2, .slice A n c, .int .i64 o.f, .int .i64 o.p, .int .i64 o.t, .int .i64 o.q, .int .i64 o.z] 37)) w.heap.size (ocl o (.slice A n c)) := Vb.new 37 w (ocl o (.slice A n c))
  have hA := h.below' hba hB
  have HK := Kp.mk hk
  clear hk
  go_enter Tryz.func12, Tryz.ntmps12
  go_upto_region 1 with fail
  generalize (w.alloc (.cells #[.int .i64 o.k, .int .i64 o.n, .int .i64 o.m, .int .i64 o.r.k, .int .i64 o.r.pr, .int .i64 o.r.to, .int .i64 o.r.po, .int .i64 o.r.x.v, .int .i64 o.r.x.m, .int .u8 o.r.x.b0, .int .u8 o.r.x.b1, .int .u8 o.r.x.b2, .int .u8 o.r.x.i0, .int .u8 o.r.x.i1, .int .u8 o.r.x.i2, .slice A n c, .int .i64 o.f, .int .i64 o.p, .int .i64 o.t, .int .i64 o.q, .int .i64 o.z] 37)) = wa at *
  obtain ⟨d0, d1, d2, d3, d4, d5, d6, d7, d8, d9, d10, d11, d12, d13, d14, d15, d16, d17, d18, d19, d20⟩ := hxa.ord
  rw [HK.out] at d0
  go_wp2_with fail
  refine (refZero_any o.r hA (by omega)).mono ?_
  rintro e w1 ⟨rfl, hb1⟩
  simp only [c0, c1, c2, c3]
  have hx1 := hxa.below hb1 (by omega)
  have hT1 := hba.trans (hb1.mono (by omega))
  have hz1 := hb1.size
  clear d0 d1 d2 d3 d4 d5 d6 d7 d8 d9 d10 d11 d12 d13 d14 d15 d16 d17 d18 d19 d20 hxa hb1
  obtain ⟨d0, d1, d2, d3, d4, d5, d6, d7, d8, d9, d10, d11, d12, d13, d14, d15, d16, d17, d18, d19, d20⟩ := hx1.ord
  rw [HK.out] at d0
  go_wp2_with (first | (go_at_call 38; refine (refIn_any _ _ _ _).mono ?_; rintro e w' ⟨rfl, rfl⟩; simp only [c0, c1, c2, c3]) | (go_at_call 37; refine (refIs_any _ _).mono ?_; rintro e w' ⟨rfl, rfl⟩))
  rw [hp.out]
  go_ret
  exact ⟨rfl, hT1⟩
set_option maxRecDepth 100000 in
set_option maxHeartbeats 1600000 in
theorem rc_8_1 {w : World} {B n c : Nat} {A : Option Addr} (o : OrdV) (h : Ro w B A n c o.r.os) (hB : B ≤ w.heap.size) (hk : o.k = 8) (c0 : (noneBo o.r) = true) (c1' : (o.n == 0) = false) : Calls Tryz.prog 12 #[.agg #[.int .i64 o.k, .int .i64 o.n, .int .i64 o.m, .int .i64 o.r.k, .int .i64 o.r.pr, .int .i64 o.r.to, .int .i64 o.r.po, .int .i64 o.r.x.v, .int .i64 o.r.x.m, .int .u8 o.r.x.b0, .int .u8 o.r.x.b1, .int .u8 o.r.x.b2, .int .u8 o.r.x.i0, .int .u8 o.r.x.i1, .int .u8 o.r.x.i2, .slice A n c, .int .i64 o.f, .int .i64 o.p, .int .i64 o.t, .int .i64 o.q, .int .i64 o.z]] w fun e w' => e = .returned (.int .i64 (checkO o)) ∧ Below w.heap.size w w' := by
  have hp := Kp.mk (show checkO o = 2 by exact checkO_two (fun hh => by have hh := (okT_8 hk).1 hh; obtain ⟨e0, e1, e2, e3, e4⟩ := hh; rw [c1'] at e1; simp at e1))
  have eQ : ∀ w, (Op.equalIn 10000 34 (.agg #[.int .i64 o.f, .int .i64 o.p, .int .i64 o.t, .int .i64 o.q, .int .i64 o.z]) (.agg #[.int .i64 0, .int .i64 0, .int .i64 0, .int .i64 0, .int .i64 0])).run Tryz.prog w = .ok (eqQB o.f o.p o.t o.q o.z 0 0 0 0 0) w := fun w => eq_probe o.f o.p o.t o.q o.z 0 0 0 0 0 w
  have hba := below_alloc w (.cells #[.int .i64 o.k, .int .i64 o.n, .int .i64 o.m, .int .i64 o.r.k, .int .i64 o.r.pr, .int .i64 o.r.to, .int .i64 o.r.po, .int .i64 o.r.x.v, .int .i64 o.r.x.m, .int .u8 o.r.x.b0, .int .u8 o.r.x.b1, .int .u8 o.r.x.b2, .int .u8 o.r.x.i0, .int .u8 o.r.x.i1, .int .u8 o.r.x.i2, .slice A n c, .int .i64 o.f, .int .i64 o.p, .int .i64 o.t, .int .i64 o.q, .int .i64 o.z] 37)
  have hza : (w.alloc (.cells #[.int .i64 o.k, .int .i64 o.n, .int .i64 o.m, .int .i64 o.r.k, .int .i64 o.r.pr, .int .i64 o.r.to, .int .i64 o.r.po, .int .i64 o.r.x.v, .int .i64 o.r.x.m, .int .u8 o.r.x.b0, .int .u8 o.r.x.b1, .int .u8 o.r.x.b2, .int .u8 o.r.x.i0, .int .u8 o.r.x.i1, .int .u8 o.r.x.i2, .slice A n c, .int .i64 o.f, .int .i64 o.p, .int .i64 o.t, .int .i64 o.q, .int .i64 o.z] 37)).heap.size = w.heap.size + 1 := by simp
  have hxa : Vb 37 (w.alloc (.cells #[.int .i64 o.k, .int .i64 o.n, .int .i64 o.m, .int .i64 o.r.k, .int .i64 o.r.pr, .int .i64 o.r.to, .int .i64 o.r.po, .int .i64 o.r.x.v, .int .i64 o.r.x.m, .int .u8 o.r.x.b0, .int .u8 o.r.x.b1, .int .u8 o.r.x.b2, .int .u8 o.r.x.i0, .int .u8 o.r.x.i1, .int .u8 o.r.x.i2, .slice A n c, .int .i64 o.f, .int .i64 o.p, .int .i64 o.t, .int .i64 o.q, .int .i64 o.z] 37)) w.heap.size (ocl o (.slice A n c)) := Vb.new 37 w (ocl o (.slice A n c))
  have hA := h.below' hba hB
  have HK := Kp.mk hk
  clear hk
  go_enter Tryz.func12, Tryz.ntmps12
  go_upto_region 1 with fail
  generalize (w.alloc (.cells #[.int .i64 o.k, .int .i64 o.n, .int .i64 o.m, .int .i64 o.r.k, .int .i64 o.r.pr, .int .i64 o.r.to, .int .i64 o.r.po, .int .i64 o.r.x.v, .int .i64 o.r.x.m, .int .u8 o.r.x.b0, .int .u8 o.r.x.b1, .int .u8 o.r.x.b2, .int .u8 o.r.x.i0, .int .u8 o.r.x.i1, .int .u8 o.r.x.i2, .slice A n c, .int .i64 o.f, .int .i64 o.p, .int .i64 o.t, .int .i64 o.q, .int .i64 o.z] 37)) = wa at *
  obtain ⟨d0, d1, d2, d3, d4, d5, d6, d7, d8, d9, d10, d11, d12, d13, d14, d15, d16, d17, d18, d19, d20⟩ := hxa.ord
  rw [HK.out] at d0
  go_wp2_with fail
  refine (refZero_any o.r hA (by omega)).mono ?_
  rintro e w1 ⟨rfl, hb1⟩
  simp only [c0, c1']
  have hx1 := hxa.below hb1 (by omega)
  have hT1 := hba.trans (hb1.mono (by omega))
  have hz1 := hb1.size
  clear d0 d1 d2 d3 d4 d5 d6 d7 d8 d9 d10 d11 d12 d13 d14 d15 d16 d17 d18 d19 d20 hxa hb1
  obtain ⟨d0, d1, d2, d3, d4, d5, d6, d7, d8, d9, d10, d11, d12, d13, d14, d15, d16, d17, d18, d19, d20⟩ := hx1.ord
  rw [HK.out] at d0
  go_wp2_with (first | (go_at_call 38; refine (refIn_any _ _ _ _).mono ?_; rintro e w' ⟨rfl, rfl⟩; simp only [c0, c1']) | (go_at_call 37; refine (refIs_any _ _).mono ?_; rintro e w' ⟨rfl, rfl⟩))
  rw [hp.out]
  go_ret
  exact ⟨rfl, hT1⟩
set_option maxRecDepth 100000 in
set_option maxHeartbeats 1600000 in
theorem rc_8_2 {w : World} {B n c : Nat} {A : Option Addr} (o : OrdV) (h : Ro w B A n c o.r.os) (hB : B ≤ w.heap.size) (hk : o.k = 8) (c0 : (noneBo o.r) = true) (c1 : (o.n == 0) = true) (c2' : (o.m == 0) = false) : Calls Tryz.prog 12 #[.agg #[.int .i64 o.k, .int .i64 o.n, .int .i64 o.m, .int .i64 o.r.k, .int .i64 o.r.pr, .int .i64 o.r.to, .int .i64 o.r.po, .int .i64 o.r.x.v, .int .i64 o.r.x.m, .int .u8 o.r.x.b0, .int .u8 o.r.x.b1, .int .u8 o.r.x.b2, .int .u8 o.r.x.i0, .int .u8 o.r.x.i1, .int .u8 o.r.x.i2, .slice A n c, .int .i64 o.f, .int .i64 o.p, .int .i64 o.t, .int .i64 o.q, .int .i64 o.z]] w fun e w' => e = .returned (.int .i64 (checkO o)) ∧ Below w.heap.size w w' := by
  have hp := Kp.mk (show checkO o = 2 by exact checkO_two (fun hh => by have hh := (okT_8 hk).1 hh; obtain ⟨e0, e1, e2, e3, e4⟩ := hh; rw [c2'] at e2; simp at e2))
  have eQ : ∀ w, (Op.equalIn 10000 34 (.agg #[.int .i64 o.f, .int .i64 o.p, .int .i64 o.t, .int .i64 o.q, .int .i64 o.z]) (.agg #[.int .i64 0, .int .i64 0, .int .i64 0, .int .i64 0, .int .i64 0])).run Tryz.prog w = .ok (eqQB o.f o.p o.t o.q o.z 0 0 0 0 0) w := fun w => eq_probe o.f o.p o.t o.q o.z 0 0 0 0 0 w
  have hba := below_alloc w (.cells #[.int .i64 o.k, .int .i64 o.n, .int .i64 o.m, .int .i64 o.r.k, .int .i64 o.r.pr, .int .i64 o.r.to, .int .i64 o.r.po, .int .i64 o.r.x.v, .int .i64 o.r.x.m, .int .u8 o.r.x.b0, .int .u8 o.r.x.b1, .int .u8 o.r.x.b2, .int .u8 o.r.x.i0, .int .u8 o.r.x.i1, .int .u8 o.r.x.i2, .slice A n c, .int .i64 o.f, .int .i64 o.p, .int .i64 o.t, .int .i64 o.q, .int .i64 o.z] 37)
  have hza : (w.alloc (.cells #[.int .i64 o.k, .int .i64 o.n, .int .i64 o.m, .int .i64 o.r.k, .int .i64 o.r.pr, .int .i64 o.r.to, .int .i64 o.r.po, .int .i64 o.r.x.v, .int .i64 o.r.x.m, .int .u8 o.r.x.b0, .int .u8 o.r.x.b1, .int .u8 o.r.x.b2, .int .u8 o.r.x.i0, .int .u8 o.r.x.i1, .int .u8 o.r.x.i2, .slice A n c, .int .i64 o.f, .int .i64 o.p, .int .i64 o.t, .int .i64 o.q, .int .i64 o.z] 37)).heap.size = w.heap.size + 1 := by simp
  have hxa : Vb 37 (w.alloc (.cells #[.int .i64 o.k, .int .i64 o.n, .int .i64 o.m, .int .i64 o.r.k, .int .i64 o.r.pr, .int .i64 o.r.to, .int .i64 o.r.po, .int .i64 o.r.x.v, .int .i64 o.r.x.m, .int .u8 o.r.x.b0, .int .u8 o.r.x.b1, .int .u8 o.r.x.b2, .int .u8 o.r.x.i0, .int .u8 o.r.x.i1, .int .u8 o.r.x.i2, .slice A n c, .int .i64 o.f, .int .i64 o.p, .int .i64 o.t, .int .i64 o.q, .int .i64 o.z] 37)) w.heap.size (ocl o (.slice A n c)) := Vb.new 37 w (ocl o (.slice A n c))
  have hA := h.below' hba hB
  have HK := Kp.mk hk
  clear hk
  go_enter Tryz.func12, Tryz.ntmps12
  go_upto_region 1 with fail
  generalize (w.alloc (.cells #[.int .i64 o.k, .int .i64 o.n, .int .i64 o.m, .int .i64 o.r.k, .int .i64 o.r.pr, .int .i64 o.r.to, .int .i64 o.r.po, .int .i64 o.r.x.v, .int .i64 o.r.x.m, .int .u8 o.r.x.b0, .int .u8 o.r.x.b1, .int .u8 o.r.x.b2, .int .u8 o.r.x.i0, .int .u8 o.r.x.i1, .int .u8 o.r.x.i2, .slice A n c, .int .i64 o.f, .int .i64 o.p, .int .i64 o.t, .int .i64 o.q, .int .i64 o.z] 37)) = wa at *
  obtain ⟨d0, d1, d2, d3, d4, d5, d6, d7, d8, d9, d10, d11, d12, d13, d14, d15, d16, d17, d18, d19, d20⟩ := hxa.ord
  rw [HK.out] at d0
  go_wp2_with fail
  refine (refZero_any o.r hA (by omega)).mono ?_
  rintro e w1 ⟨rfl, hb1⟩
  simp only [c0, c1, c2']
  have hx1 := hxa.below hb1 (by omega)
  have hT1 := hba.trans (hb1.mono (by omega))
  have hz1 := hb1.size
  clear d0 d1 d2 d3 d4 d5 d6 d7 d8 d9 d10 d11 d12 d13 d14 d15 d16 d17 d18 d19 d20 hxa hb1
  obtain ⟨d0, d1, d2, d3, d4, d5, d6, d7, d8, d9, d10, d11, d12, d13, d14, d15, d16, d17, d18, d19, d20⟩ := hx1.ord
  rw [HK.out] at d0
  go_wp2_with (first | (go_at_call 38; refine (refIn_any _ _ _ _).mono ?_; rintro e w' ⟨rfl, rfl⟩; simp only [c0, c1, c2']) | (go_at_call 37; refine (refIs_any _ _).mono ?_; rintro e w' ⟨rfl, rfl⟩))
  rw [hp.out]
  go_ret
  exact ⟨rfl, hT1⟩
set_option maxRecDepth 100000 in
set_option maxHeartbeats 1600000 in
theorem rc_8_3 {w : World} {B n c : Nat} {A : Option Addr} (o : OrdV) (h : Ro w B A n c o.r.os) (hB : B ≤ w.heap.size) (hk : o.k = 8) (c0 : (noneBo o.r) = true) (c1 : (o.n == 0) = true) (c2 : (o.m == 0) = true) (c3' : (checkQ o.f o.p o.t o.q o.z == 0) = false) : Calls Tryz.prog 12 #[.agg #[.int .i64 o.k, .int .i64 o.n, .int .i64 o.m, .int .i64 o.r.k, .int .i64 o.r.pr, .int .i64 o.r.to, .int .i64 o.r.po, .int .i64 o.r.x.v, .int .i64 o.r.x.m, .int .u8 o.r.x.b0, .int .u8 o.r.x.b1, .int .u8 o.r.x.b2, .int .u8 o.r.x.i0, .int .u8 o.r.x.i1, .int .u8 o.r.x.i2, .slice A n c, .int .i64 o.f, .int .i64 o.p, .int .i64 o.t, .int .i64 o.q, .int .i64 o.z]] w fun e w' => e = .returned (.int .i64 (checkO o)) ∧ Below w.heap.size w w' := by
  have hp := Kp.mk (show checkO o = 2 by exact checkO_two (fun hh => by have hh := (okT_8 hk).1 hh; obtain ⟨e0, e1, e2, e3, e4⟩ := hh; rw [c3'] at e3; simp at e3))
  have eQ : ∀ w, (Op.equalIn 10000 34 (.agg #[.int .i64 o.f, .int .i64 o.p, .int .i64 o.t, .int .i64 o.q, .int .i64 o.z]) (.agg #[.int .i64 0, .int .i64 0, .int .i64 0, .int .i64 0, .int .i64 0])).run Tryz.prog w = .ok (eqQB o.f o.p o.t o.q o.z 0 0 0 0 0) w := fun w => eq_probe o.f o.p o.t o.q o.z 0 0 0 0 0 w
  have hba := below_alloc w (.cells #[.int .i64 o.k, .int .i64 o.n, .int .i64 o.m, .int .i64 o.r.k, .int .i64 o.r.pr, .int .i64 o.r.to, .int .i64 o.r.po, .int .i64 o.r.x.v, .int .i64 o.r.x.m, .int .u8 o.r.x.b0, .int .u8 o.r.x.b1, .int .u8 o.r.x.b2, .int .u8 o.r.x.i0, .int .u8 o.r.x.i1, .int .u8 o.r.x.i2, .slice A n c, .int .i64 o.f, .int .i64 o.p, .int .i64 o.t, .int .i64 o.q, .int .i64 o.z] 37)
  have hza : (w.alloc (.cells #[.int .i64 o.k, .int .i64 o.n, .int .i64 o.m, .int .i64 o.r.k, .int .i64 o.r.pr, .int .i64 o.r.to, .int .i64 o.r.po, .int .i64 o.r.x.v, .int .i64 o.r.x.m, .int .u8 o.r.x.b0, .int .u8 o.r.x.b1, .int .u8 o.r.x.b2, .int .u8 o.r.x.i0, .int .u8 o.r.x.i1, .int .u8 o.r.x.i2, .slice A n c, .int .i64 o.f, .int .i64 o.p, .int .i64 o.t, .int .i64 o.q, .int .i64 o.z] 37)).heap.size = w.heap.size + 1 := by simp
  have hxa : Vb 37 (w.alloc (.cells #[.int .i64 o.k, .int .i64 o.n, .int .i64 o.m, .int .i64 o.r.k, .int .i64 o.r.pr, .int .i64 o.r.to, .int .i64 o.r.po, .int .i64 o.r.x.v, .int .i64 o.r.x.m, .int .u8 o.r.x.b0, .int .u8 o.r.x.b1, .int .u8 o.r.x.b2, .int .u8 o.r.x.i0, .int .u8 o.r.x.i1, .int .u8 o.r.x.i2, .slice A n c, .int .i64 o.f, .int .i64 o.p, .int .i64 o.t, .int .i64 o.q, .int .i64 o.z] 37)) w.heap.size (ocl o (.slice A n c)) := Vb.new 37 w (ocl o (.slice A n c))
  have hA := h.below' hba hB
  have HK := Kp.mk hk
  clear hk
  go_enter Tryz.func12, Tryz.ntmps12
  go_upto_region 1 with fail
  generalize (w.alloc (.cells #[.int .i64 o.k, .int .i64 o.n, .int .i64 o.m, .int .i64 o.r.k, .int .i64 o.r.pr, .int .i64 o.r.to, .int .i64 o.r.po, .int .i64 o.r.x.v, .int .i64 o.r.x.m, .int .u8 o.r.x.b0, .int .u8 o.r.x.b1, .int .u8 o.r.x.b2, .int .u8 o.r.x.i0, .int .u8 o.r.x.i1, .int .u8 o.r.x.i2, .slice A n c, .int .i64 o.f, .int .i64 o.p, .int .i64 o.t, .int .i64 o.q, .int .i64 o.z] 37)) = wa at *
  obtain ⟨d0, d1, d2, d3, d4, d5, d6, d7, d8, d9, d10, d11, d12, d13, d14, d15, d16, d17, d18, d19, d20⟩ := hxa.ord
  rw [HK.out] at d0
  go_wp2_with fail
  refine (refZero_any o.r hA (by omega)).mono ?_
  rintro e w1 ⟨rfl, hb1⟩
  simp only [c0, c1, c2, c3']
  have hx1 := hxa.below hb1 (by omega)
  have hT1 := hba.trans (hb1.mono (by omega))
  have hz1 := hb1.size
  clear d0 d1 d2 d3 d4 d5 d6 d7 d8 d9 d10 d11 d12 d13 d14 d15 d16 d17 d18 d19 d20 hxa hb1
  obtain ⟨d0, d1, d2, d3, d4, d5, d6, d7, d8, d9, d10, d11, d12, d13, d14, d15, d16, d17, d18, d19, d20⟩ := hx1.ord
  rw [HK.out] at d0
  go_wp2_with (first | (go_at_call 38; refine (refIn_any _ _ _ _).mono ?_; rintro e w' ⟨rfl, rfl⟩; simp only [c0, c1, c2, c3']) | (go_at_call 37; refine (refIs_any _ _).mono ?_; rintro e w' ⟨rfl, rfl⟩))
  refine (refCheck_any o.f o.p o.t o.q o.z w1).mono ?_
  rintro e w2 ⟨rfl, hb2⟩
  have hx2 := hx1.below hb2 (by omega)
  clear d0 d1 d2 d3 d4 d5 d6 d7 d8 d9 d10 d11 d12 d13 d14 d15 d16 d17 d18 d19 d20
  obtain ⟨d0, d1, d2, d3, d4, d5, d6, d7, d8, d9, d10, d11, d12, d13, d14, d15, d16, d17, d18, d19, d20⟩ := hx2.ord
  go_wp2_with (go_at_call 37; refine (refIs_any _ _).mono ?_; rintro e w' ⟨rfl, rfl⟩)
  rw [hp.out]
  go_ret
  exact ⟨rfl, hT1.trans (hb2.mono (by omega))⟩
set_option maxRecDepth 100000 in
set_option maxHeartbeats 1600000 in
theorem rc_8_4 {w : World} {B n c : Nat} {A : Option Addr} (o : OrdV) (h : Ro w B A n c o.r.os) (hB : B ≤ w.heap.size) (hk : o.k = 8) (c0 : (noneBo o.r) = true) (c1 : (o.n == 0) = true) (c2 : (o.m == 0) = true) (c3 : (checkQ o.f o.p o.t o.q o.z == 0) = true) (c4' : (decide (0 < o.t)) = false) : Calls Tryz.prog 12 #[.agg #[.int .i64 o.k, .int .i64 o.n, .int .i64 o.m, .int .i64 o.r.k, .int .i64 o.r.pr, .int .i64 o.r.to, .int .i64 o.r.po, .int .i64 o.r.x.v, .int .i64 o.r.x.m, .int .u8 o.r.x.b0, .int .u8 o.r.x.b1, .int .u8 o.r.x.b2, .int .u8 o.r.x.i0, .int .u8 o.r.x.i1, .int .u8 o.r.x.i2, .slice A n c, .int .i64 o.f, .int .i64 o.p, .int .i64 o.t, .int .i64 o.q, .int .i64 o.z]] w fun e w' => e = .returned (.int .i64 (checkO o)) ∧ Below w.heap.size w w' := by
  have hp := Kp.mk (show checkO o = 2 by exact checkO_two (fun hh => by have hh := (okT_8 hk).1 hh; obtain ⟨e0, e1, e2, e3, e4⟩ := hh; rw [c4'] at e4; simp at e4))
  have eQ : ∀ w, (Op.equalIn 10000 34 (.agg #[.int .i64 o.f, .int .i64 o.p, .int .i64 o.t, .int .i64 o.q, .int .i64 o.z]) (.agg #[.int .i64 0, .int .i64 0, .int .i64 0, .int .i64 0, .int .i64 0])).run Tryz.prog w = .ok (eqQB o.f o.p o.t o.q o.z 0 0 0 0 0) w := fun w => eq_probe o.f o.p o.t o.q o.z 0 0 0 0 0 w
  have jt : o.t ≤ 0 := by simpa using c4'
  have hba := below_alloc w (.cells #[.int .i64 o.k, .int .i64 o.n, .int .i64 o.m, .int .i64 o.r.k, .int .i64 o.r.pr, .int .i64 o.r.to, .int .i64 o.r.po, .int .i64 o.r.x.v, .int .i64 o.r.x.m, .int .u8 o.r.x.b0, .int .u8 o.r.x.b1, .int .u8 o.r.x.b2, .int .u8 o.r.x.i0, .int .u8 o.r.x.i1, .int .u8 o.r.x.i2, .slice A n c, .int .i64 o.f, .int .i64 o.p, .int .i64 o.t, .int .i64 o.q, .int .i64 o.z] 37)
  have hza : (w.alloc (.cells #[.int .i64 o.k, .int .i64 o.n, .int .i64 o.m, .int .i64 o.r.k, .int .i64 o.r.pr, .int .i64 o.r.to, .int .i64 o.r.po, .int .i64 o.r.x.v, .int .i64 o.r.x.m, .int .u8 o.r.x.b0, .int .u8 o.r.x.b1, .int .u8 o.r.x.b2, .int .u8 o.r.x.i0, .int .u8 o.r.x.i1, .int .u8 o.r.x.i2, .slice A n c, .int .i64 o.f, .int .i64 o.p, .int .i64 o.t, .int .i64 o.q, .int .i64 o.z] 37)).heap.size = w.heap.size + 1 := by simp
  have hxa : Vb 37 (w.alloc (.cells #[.int .i64 o.k, .int .i64 o.n, .int .i64 o.m, .int .i64 o.r.k, .int .i64 o.r.pr, .int .i64 o.r.to, .int .i64 o.r.po, .int .i64 o.r.x.v, .int .i64 o.r.x.m, .int .u8 o.r.x.b0, .int .u8 o.r.x.b1, .int .u8 o.r.x.b2, .int .u8 o.r.x.i0, .int .u8 o.r.x.i1, .int .u8 o.r.x.i2, .slice A n c, .int .i64 o.f, .int .i64 o.p, .int .i64 o.t, .int .i64 o.q, .int .i64 o.z] 37)) w.heap.size (ocl o (.slice A n c)) := Vb.new 37 w (ocl o (.slice A n c))
  have hA := h.below' hba hB
  have HK := Kp.mk hk
  clear hk
  go_enter Tryz.func12, Tryz.ntmps12
  go_upto_region 1 with fail
  generalize (w.alloc (.cells #[.int .i64 o.k, .int .i64 o.n, .int .i64 o.m, .int .i64 o.r.k, .int .i64 o.r.pr, .int .i64 o.r.to, .int .i64 o.r.po, .int .i64 o.r.x.v, .int .i64 o.r.x.m, .int .u8 o.r.x.b0, .int .u8 o.r.x.b1, .int .u8 o.r.x.b2, .int .u8 o.r.x.i0, .int .u8 o.r.x.i1, .int .u8 o.r.x.i2, .slice A n c, .int .i64 o.f, .int .i64 o.p, .int .i64 o.t, .int .i64 o.q, .int .i64 o.z] 37)) = wa at *
  obtain ⟨d0, d1, d2, d3, d4, d5, d6, d7, d8, d9, d10, d11, d12, d13, d14, d15, d16, d17, d18, d19, d20⟩ := hxa.ord
  rw [HK.out] at d0
  go_wp2_with fail
  refine (refZero_any o.r hA (by omega)).mono ?_
  rintro e w1 ⟨rfl, hb1⟩
  simp only [c0, c1, c2, c3, c4']
  have hx1 := hxa.below hb1 (by omega)
  have hT1 := hba.trans (hb1.mono (by omega))
  have hz1 := hb1.size
  clear d0 d1 d2 d3 d4 d5 d6 d7 d8 d9 d10 d11 d12 d13 d14 d15 d16 d17 d18 d19 d20 hxa hb1
  obtain ⟨d0, d1, d2, d3, d4, d5, d6, d7, d8, d9, d10, d11, d12, d13, d14, d15, d16, d17, d18, d19, d20⟩ := hx1.ord
  rw [HK.out] at d0
  go_wp2_with (first | (go_at_call 38; refine (refIn_any _ _ _ _).mono ?_; rintro e w' ⟨rfl, rfl⟩; simp only [c0, c1, c2, c3, c4']) | (go_at_call 37; refine (refIs_any _ _).mono ?_; rintro e w' ⟨rfl, rfl⟩))
  refine (refCheck_any o.f o.p o.t o.q o.z w1).mono ?_
  rintro e w2 ⟨rfl, hb2⟩
  have hx2 := hx1.below hb2 (by omega)
  clear d0 d1 d2 d3 d4 d5 d6 d7 d8 d9 d10 d11 d12 d13 d14 d15 d16 d17 d18 d19 d20
  obtain ⟨d0, d1, d2, d3, d4, d5, d6, d7, d8, d9, d10, d11, d12, d13, d14, d15, d16, d17, d18, d19, d20⟩ := hx2.ord
  go_wp2_with (go_at_call 37; refine (refIs_any _ _).mono ?_; rintro e w' ⟨rfl, rfl⟩)
  rw [hp.out]
  go_ret
  exact ⟨rfl, hT1.trans (hb2.mono (by omega))⟩
set_option maxRecDepth 100000 in
set_option maxHeartbeats 1600000 in
theorem rc_8_ok {w : World} {B n c : Nat} {A : Option Addr} (o : OrdV) (h : Ro w B A n c o.r.os) (hB : B ≤ w.heap.size) (hk : o.k = 8) (c0 : (noneBo o.r) = true) (c1 : (o.n == 0) = true) (c2 : (o.m == 0) = true) (c3 : (checkQ o.f o.p o.t o.q o.z == 0) = true) (c4 : (decide (0 < o.t)) = true) : Calls Tryz.prog 12 #[.agg #[.int .i64 o.k, .int .i64 o.n, .int .i64 o.m, .int .i64 o.r.k, .int .i64 o.r.pr, .int .i64 o.r.to, .int .i64 o.r.po, .int .i64 o.r.x.v, .int .i64 o.r.x.m, .int .u8 o.r.x.b0, .int .u8 o.r.x.b1, .int .u8 o.r.x.b2, .int .u8 o.r.x.i0, .int .u8 o.r.x.i1, .int .u8 o.r.x.i2, .slice A n c, .int .i64 o.f, .int .i64 o.p, .int .i64 o.t, .int .i64 o.q, .int .i64 o.z]] w fun e w' => e = .returned (.int .i64 (checkO o)) ∧ Below w.heap.size w w' := by
  have hp := Kp.mk (show checkO o = 0 by exact checkO_nil ((okT_8 hk).2 ⟨c0, c1, c2, c3, c4⟩))
  have eQ : ∀ w, (Op.equalIn 10000 34 (.agg #[.int .i64 o.f, .int .i64 o.p, .int .i64 o.t, .int .i64 o.q, .int .i64 o.z]) (.agg #[.int .i64 0, .int .i64 0, .int .i64 0, .int .i64 0, .int .i64 0])).run Tryz.prog w = .ok (eqQB o.f o.p o.t o.q o.z 0 0 0 0 0) w := fun w => eq_probe o.f o.p o.t o.q o.z 0 0 0 0 0 w
  have jt : 0 < o.t := by simpa using c4
  have hba := below_alloc w (.cells #[.int .i64 o.k, .int .i64 o.n, .int .i64 o.m, .int .i64 o.r.k, .int .i64 o.r.pr, .int .i64 o.r.to, .int .i64 o.r.po, .int .i64 o.r.x.v, .int .i64 o.r.x.m, .int .u8 o.r.x.b0, .int .u8 o.r.x.b1, .int .u8 o.r.x.b2, .int .u8 o.r.x.i0, .int .u8 o.r.x.i1, .int .u8 o.r.x.i2, .slice A n c, .int .i64 o.f, .int .i64 o.p, .int .i64 o.t, .int .i64 o.q, .int .i64 o.z] 37)
  have hza : (w.alloc (.cells #[.int .i64 o.k, .int .i64 o.n, .int .i64 o.m, .int .i64 o.r.k, .int .i64 o.r.pr, .int .i64 o.r.to, .int .i64 o.r.po, .int .i64 o.r.x.v, .int .i64 o.r.x.m, .int .u8 o.r.x.b0, .int .u8 o.r.x.b1, .int .u8 o.r.x.b2, .int .u8 o.r.x.i0, .int .u8 o.r.x.i1, .int .u8 o.r.x.i2, .slice A n c, .int .i64 o.f, .int .i64 o.p, .int .i64 o.t, .int .i64 o.q, .int .i64 o.z] 37)).heap.size = w.heap.size + 1 := by simp
  have hxa : Vb 37 (w.alloc (.cells #[.int .i64 o.k, .int .i64 o.n, .int .i64 o.m, .int .i64 o.r.k, .int .i64 o.r.pr, .int .i64 o.r.to, .int .i64 o.r.po, .int .i64 o.r.x.v, .int .i64 o.r.x.m, .int .u8 o.r.x.b0, .int .u8 o.r.x.b1, .int .u8 o.r.x.b2, .int .u8 o.r.x.i0, .int .u8 o.r.x.i1, .int .u8 o.r.x.i2, .slice A n c, .int .i64 o.f, .int .i64 o.p, .int .i64 o.t, .int .i64 o.q, .int .i64 o.z] 37)) w.heap.size (ocl o (.slice A n c)) := Vb.new 37 w (ocl o (.slice A n c))
  have hA := h.below' hba hB
  have HK := Kp.mk hk
  clear hk
  go_enter Tryz.func12, Tryz.ntmps12
  go_upto_region 1 with fail
  generalize (w.alloc (.cells #[.int .i64 o.k, .int .i64 o.n, .int .i64 o.m, .int .i64 o.r.k, .int .i64 o.r.pr, .int .i64 o.r.to, .int .i64 o.r.po, .int .i64 o.r.x.v, .int .i64 o.r.x.m, .int .u8 o.r.x.b0, .int .u8 o.r.x.b1, .int .u8 o.r.x.b2, .int .u8 o.r.x.i0, .int .u8 o.r.x.i1, .int .u8 o.r.x.i2, .slice A n c, .int .i64 o.f, .int .i64 o.p, .int .i64 o.t, .int .i64 o.q, .int .i64 o.z] 37)) = wa at *
  obtain ⟨d0, d1, d2, d3, d4, d5, d6, d7, d8, d9, d10, d11, d12, d13, d14, d15, d16, d17, d18, d19, d20⟩ := hxa.ord
  rw [HK.out] at d0
  go_wp2_with fail
  refine (refZero_any o.r hA (by omega)).mono ?_
  rintro e w1 ⟨rfl, hb1⟩
  simp only [c0, c1, c2, c3, c4]
  have hx1 := hxa.below hb1 (by omega)
  have hT1 := hba.trans (hb1.mono (by omega))
  have hz1 := hb1.size
  clear d0 d1 d2 d3 d4 d5 d6 d7 d8 d9 d10 d11 d12 d13 d14 d15 d16 d17 d18 d19 d20 hxa hb1
  obtain ⟨d0, d1, d2, d3, d4, d5, d6, d7, d8, d9, d10, d11, d12, d13, d14, d15, d16, d17, d18, d19, d20⟩ := hx1.ord
  rw [HK.out] at d0
  go_wp2_with (first | (go_at_call 38; refine (refIn_any _ _ _ _).mono ?_; rintro e w' ⟨rfl, rfl⟩; simp only [c0, c1, c2, c3, c4]) | (go_at_call 37; refine (refIs_any _ _).mono ?_; rintro e w' ⟨rfl, rfl⟩))
  refine (refCheck_any o.f o.p o.t o.q o.z w1).mono ?_
  rintro e w2 ⟨rfl, hb2⟩
  have hx2 := hx1.below hb2 (by omega)
  clear d0 d1 d2 d3 d4 d5 d6 d7 d8 d9 d10 d11 d12 d13 d14 d15 d16 d17 d18 d19 d20
  obtain ⟨d0, d1, d2, d3, d4, d5, d6, d7, d8, d9, d10, d11, d12, d13, d14, d15, d16, d17, d18, d19, d20⟩ := hx2.ord
  go_wp2_with (go_at_call 37; refine (refIs_any _ _).mono ?_; rintro e w' ⟨rfl, rfl⟩)
  rw [hp.out]
  go_ret
  exact ⟨rfl, hT1.trans (hb2.mono (by omega))⟩
set_option maxRecDepth 100000 in
set_option maxHeartbeats 1600000 in
theorem rc_9_2 {w : World} {B n c : Nat} {A : Option Addr} (o : OrdV) (h : Ro w B A n c o.r.os) (hB : B ≤ w.heap.size) (hk : o.k = 9) (c0 : (noneBo o.r) = true) (c1 : (eqQB o.f o.p o.t o.q o.z 0 0 0 0 0) = true) (c2' : (inB o.n 1 4) = false) : Calls Tryz.prog 12 #[.agg #[.int .i64 o.k, .int .i64 o.n, .int .i64 o.m, .int .i64 o.r.k, .int .i64 o.r.pr, .int .i64 o.r.to, .int .i64 o.r.po, .int .i64 o.r.x.v, .int .i64 o.r.x.m, .int .u8 o.r.x.b0, .int .u8 o.r.x.b1, .int .u8 o.r.x.b2, .int .u8 o.r.x.i0, .int .u8 o.r.x.i1, .int .u8 o.r.x.i2, .slice A n c, .int .i64 o.f, .int .i64 o.p, .int .i64 o.t, .int .i64 o.q, .int .i64 o.z]] w fun e w' => e = .returned (.int .i64 (checkO o)) ∧ Below w.heap.size w w' := by
  have hp := Kp.mk (show checkO o = 2 by exact checkO_two (fun hh => by have hh := (okT_9 hk).1 hh; obtain ⟨e0, e1, e2, e3⟩ := hh; rw [c2'] at e2; simp at e2))
  have eQ : ∀ w, (Op.equalIn 10000 34 (.agg #[.int .i64 o.f, .int .i64 o.p, .int .i64 o.t, .int .i64 o.q, .int .i64 o.z]) (.agg #[.int .i64 0, .int .i64 0, .int .i64 0, .int .i64 0, .int .i64 0])).run Tryz.prog w = .ok (eqQB o.f o.p o.t o.q o.z 0 0 0 0 0) w := fun w => eq_probe o.f o.p o.t o.q o.z 0 0 0 0 0 w
  have hba := below_alloc w (.cells #[.int .i64 o.k, .int .i64 o.n, .int .i64 o.m, .int .i64 o.r.k, .int .i64 o.r.pr, .int .i64 o.r.to, .int .i64 o.r.po, .int .i64 o.r.x.v, .int .i64 o.r.x.m, .int .u8 o.r.x.b0, .int .u8 o.r.x.b1, .int .u8 o.r.x.b2, .int .u8 o.r.x.i0, .int .u8 o.r.x.i1, .int .u8 o.r.x.i2, .slice A n c, .int .i64 o.f, .int .i64 o.p, .int .i64 o.t, .int .i64 o.q, .int .i64 o.z] 37)
  have hza : (w.alloc (.cells #[.int .i64 o.k, .int .i64 o.n, .int .i64 o.m, .int .i64 o.r.k, .int .i64 o.r.pr, .int .i64 o.r.to, .int .i64 o.r.po, .int .i64 o.r.x.v, .int .i64 o.r.x.m, .int .u8 o.r.x.b0, .int .u8 o.r.x.b1, .int .u8 o.r.x.b2, .int .u8 o.r.x.i0, .int .u8 o.r.x.i1, .int .u8 o.r.x.i2, .slice A n c, .int .i64 o.f, .int .i64 o.p, .int .i64 o.t, .int .i64 o.q, .int .i64 o.z] 37)).heap.size = w.heap.size + 1 := by simp
  have hxa : Vb 37 (w.alloc (.cells #[.int .i64 o.k, .int .i64 o.n, .int .i64 o.m, .int .i64 o.r.k, .int .i64 o.r.pr, .int .i64 o.r.to, .int .i64 o.r.po, .int .i64 o.r.x.v, .int .i64 o.r.x.m, .int .u8 o.r.x.b0, .int .u8 o.r.x.b1, .int .u8 o.r.x.b2, .int .u8 o.r.x.i0, .int .u8 o.r.x.i1, .int .u8 o.r.x.i2, .slice A n c, .int .i64 o.f, .int .i64 o.p, .int .i64 o.t, .int .i64 o.q, .int .i64 o.z] 37)) w.heap.size (ocl o (.slice A n c)) := Vb.new 37 w (ocl o (.slice A n c))
  have hA := h.below' hba hB
  have HK := Kp.mk hk
  clear hk
  go_enter Tryz.func12, Tryz.ntmps12
  go_upto_region 1 with fail
  generalize (w.alloc (.cells #[.int .i64 o.k, .int .i64 o.n, .int .i64 o.m, .int .i64 o.r.k, .int .i64 o.r.pr, .int .i64 o.r.to, .int .i64 o.r.po, .int .i64 o.r.x.v, .int .i64 o.r.x.m, .int .u8 o.r.x.b0, .int .u8 o.r.x.b1, .int .u8 o.r.x.b2, .int .u8 o.r.x.i0, .int .u8 o.r.x.i1, .int .u8 o.r.x.i2, .slice A n c, .int .i64 o.f, .int .i64 o.p, .int .i64 o.t, .int .i64 o.q, .int .i64 o.z] 37)) = wa at *
  obtain ⟨d0, d1, d2, d3, d4, d5, d6, d7, d8, d9, d10, d11, d12, d13, d14, d15, d16, d17, d18, d19, d20⟩ := hxa.ord
  rw [HK.out] at d0
  go_wp2_with fail
  refine (refZero_any o.r hA (by omega)).mono ?_
  rintro e w1 ⟨rfl, hb1⟩
  simp only [c0, c1, c2']
  have hx1 := hxa.below hb1 (by omega)
  have hT1 := hba.trans (hb1.mono (by omega))
  have hz1 := hb1.size
  clear d0 d1 d2 d3 d4 d5 d6 d7 d8 d9 d10 d11 d12 d13 d14 d15 d16 d17 d18 d19 d20 hxa hb1
  obtain ⟨d0, d1, d2, d3, d4, d5, d6, d7, d8, d9, d10, d11, d12, d13, d14, d15, d16, d17, d18, d19, d20⟩ := hx1.ord
  rw [HK.out] at d0
  go_wp2_with (first | (go_at_call 38; refine (refIn_any _ _ _ _).mono ?_; rintro e w' ⟨rfl, rfl⟩; simp only [c0, c1, c2']) | (go_at_call 37; refine (refIs_any _ _).mono ?_; rintro e w' ⟨rfl, rfl⟩))
  rw [hp.out]
  go_ret
  exact ⟨rfl, hT1⟩
set_option maxRecDepth 100000 in
set_option maxHeartbeats 1600000 in
theorem rc_9_3 {w : World} {B n c : Nat} {A : Option Addr} (o : OrdV) (h : Ro w B A n c o.r.os) (hB : B ≤ w.heap.size) (hk : o.k = 9) (c0 : (noneBo o.r) = true) (c1 : (eqQB o.f o.p o.t o.q o.z 0 0 0 0 0) = true) (c2 : (inB o.n 1 4) = true) (c3' : (inB o.m 0 1) = false) : Calls Tryz.prog 12 #[.agg #[.int .i64 o.k, .int .i64 o.n, .int .i64 o.m, .int .i64 o.r.k, .int .i64 o.r.pr, .int .i64 o.r.to, .int .i64 o.r.po, .int .i64 o.r.x.v, .int .i64 o.r.x.m, .int .u8 o.r.x.b0, .int .u8 o.r.x.b1, .int .u8 o.r.x.b2, .int .u8 o.r.x.i0, .int .u8 o.r.x.i1, .int .u8 o.r.x.i2, .slice A n c, .int .i64 o.f, .int .i64 o.p, .int .i64 o.t, .int .i64 o.q, .int .i64 o.z]] w fun e w' => e = .returned (.int .i64 (checkO o)) ∧ Below w.heap.size w w' := by
  have hp := Kp.mk (show checkO o = 2 by exact checkO_two (fun hh => by have hh := (okT_9 hk).1 hh; obtain ⟨e0, e1, e2, e3⟩ := hh; rw [c3'] at e3; simp at e3))
  have eQ : ∀ w, (Op.equalIn 10000 34 (.agg #[.int .i64 o.f, .int .i64 o.p, .int .i64 o.t, .int .i64 o.q, .int .i64 o.z]) (.agg #[.int .i64 0, .int .i64 0, .int .i64 0, .int .i64 0, .int .i64 0])).run Tryz.prog w = .ok (eqQB o.f o.p o.t o.q o.z 0 0 0 0 0) w := fun w => eq_probe o.f o.p o.t o.q o.z 0 0 0 0 0 w
  have hba := below_alloc w (.cells #[.int .i64 o.k, .int .i64 o.n, .int .i64 o.m, .int .i64 o.r.k, .int .i64 o.r.pr, .int .i64 o.r.to, .int .i64 o.r.po, .int .i64 o.r.x.v, .int .i64 o.r.x.m, .int .u8 o.r.x.b0, .int .u8 o.r.x.b1, .int .u8 o.r.x.b2, .int .u8 o.r.x.i0, .int .u8 o.r.x.i1, .int .u8 o.r.x.i2, .slice A n c, .int .i64 o.f, .int .i64 o.p, .int .i64 o.t, .int .i64 o.q, .int .i64 o.z] 37)
  have hza : (w.alloc (.cells #[.int .i64 o.k, .int .i64 o.n, .int .i64 o.m, .int .i64 o.r.k, .int .i64 o.r.pr, .int .i64 o.r.to, .int .i64 o.r.po, .int .i64 o.r.x.v, .int .i64 o.r.x.m, .int .u8 o.r.x.b0, .int .u8 o.r.x.b1, .int .u8 o.r.x.b2, .int .u8 o.r.x.i0, .int .u8 o.r.x.i1, .int .u8 o.r.x.i2, .slice A n c, .int .i64 o.f, .int .i64 o.p, .int .i64 o.t, .int .i64 o.q, .int .i64 o.z] 37)).heap.size = w.heap.size + 1 := by simp
  have hxa : Vb 37 (w.alloc (.cells #[.int .i64 o.k, .int .i64 o.n, .int .i64 o.m, .int .i64 o.r.k, .int .i64 o.r.pr, .int .i64 o.r.to, .int .i64 o.r.po, .int .i64 o.r.x.v, .int .i64 o.r.x.m, .int .u8 o.r.x.b0, .int .u8 o.r.x.b1, .int .u8 o.r.x.b2, .int .u8 o.r.x.i0, .int .u8 o.r.x.i1, .int .u8 o.r.x.i2, .slice A n c, .int .i64 o.f, .int .i64 o.p, .int .i64 o.t, .int .i64 o.q, .int .i64 o.z] 37)) w.heap.size (ocl o (.slice A n c)) := Vb.new 37 w (ocl o (.slice A n c))
  have hA := h.below' hba hB
  have HK := Kp.mk hk
  clear hk
  go_enter Tryz.func12, Tryz.ntmps12
  go_upto_region 1 with fail
  generalize (w.alloc (.cells #[.int .i64 o.k, .int .i64 o.n, .int .i64 o.m, .int .i64 o.r.k, .int .i64 o.r.pr, .int .i64 o.r.to, .int .i64 o.r.po, .int .i64 o.r.x.v, .int .i64 o.r.x.m, .int .u8 o.r.x.b0, .int .u8 o.r.x.b1, .int .u8 o.r.x.b2, .int .u8 o.r.x.i0, .int .u8 o.r.x.i1, .int .u8 o.r.x.i2, .slice A n c, .int .i64 o.f, .int .i64 o.p, .int .i64 o.t, .int .i64 o.q, .int .i64 o.z] 37)) = wa at *
  obtain ⟨d0, d1, d2, d3, d4, d5, d6, d7, d8, d9, d10, d11, d12, d13, d14, d15, d16, d17, d18, d19, d20⟩ := hxa.ord
  rw [HK.out] at d0
  go_wp2_with fail
  refine (refZero_any o.r hA (by omega)).mono ?_
  rintro e w1 ⟨rfl, hb1⟩
  simp only [c0, c1, c2, c3']
  have hx1 := hxa.below hb1 (by omega)
  have hT1 := hba.trans (hb1.mono (by omega))
  have hz1 := hb1.size
  clear d0 d1 d2 d3 d4 d5 d6 d7 d8 d9 d10 d11 d12 d13 d14 d15 d16 d17 d18 d19 d20 hxa hb1
  obtain ⟨d0, d1, d2, d3, d4, d5, d6, d7, d8, d9, d10, d11, d12, d13, d14, d15, d16, d17, d18, d19, d20⟩ := hx1.ord
  rw [HK.out] at d0
  go_wp2_with (first | (go_at_call 38; refine (refIn_any _ _ _ _).mono ?_; rintro e w' ⟨rfl, rfl⟩; simp only [c0, c1, c2, c3']) | (go_at_call 37; refine (refIs_any _ _).mono ?_; rintro e w' ⟨rfl, rfl⟩))
  rw [hp.out]
  go_ret
  exact ⟨rfl, hT1⟩
set_option maxRecDepth 100000 in
set_option maxHeartbeats 1600000 in
theorem rc_9_ok {w : World} {B n c : Nat} {A : Option Addr} (o : OrdV) (h : Ro w B A n c o.r.os) (hB : B ≤ w.heap.size) (hk : o.k = 9) (c0 : (noneBo o.r) = true) (c1 : (eqQB o.f o.p o.t o.q o.z 0 0 0 0 0) = true) (c2 : (inB o.n 1 4) = true) (c3 : (inB o.m 0 1) = true) : Calls Tryz.prog 12 #[.agg #[.int .i64 o.k, .int .i64 o.n, .int .i64 o.m, .int .i64 o.r.k, .int .i64 o.r.pr, .int .i64 o.r.to, .int .i64 o.r.po, .int .i64 o.r.x.v, .int .i64 o.r.x.m, .int .u8 o.r.x.b0, .int .u8 o.r.x.b1, .int .u8 o.r.x.b2, .int .u8 o.r.x.i0, .int .u8 o.r.x.i1, .int .u8 o.r.x.i2, .slice A n c, .int .i64 o.f, .int .i64 o.p, .int .i64 o.t, .int .i64 o.q, .int .i64 o.z]] w fun e w' => e = .returned (.int .i64 (checkO o)) ∧ Below w.heap.size w w' := by
  have hp := Kp.mk (show checkO o = 0 by exact checkO_nil ((okT_9 hk).2 ⟨c0, c1, c2, c3⟩))
  have eQ : ∀ w, (Op.equalIn 10000 34 (.agg #[.int .i64 o.f, .int .i64 o.p, .int .i64 o.t, .int .i64 o.q, .int .i64 o.z]) (.agg #[.int .i64 0, .int .i64 0, .int .i64 0, .int .i64 0, .int .i64 0])).run Tryz.prog w = .ok (eqQB o.f o.p o.t o.q o.z 0 0 0 0 0) w := fun w => eq_probe o.f o.p o.t o.q o.z 0 0 0 0 0 w
  have hba := below_alloc w (.cells #[.int .i64 o.k, .int .i64 o.n, .int .i64 o.m, .int .i64 o.r.k, .int .i64 o.r.pr, .int .i64 o.r.to, .int .i64 o.r.po, .int .i64 o.r.x.v, .int .i64 o.r.x.m, .int .u8 o.r.x.b0, .int .u8 o.r.x.b1, .int .u8 o.r.x.b2, .int .u8 o.r.x.i0, .int .u8 o.r.x.i1, .int .u8 o.r.x.i2, .slice A n c, .int .i64 o.f, .int .i64 o.p, .int .i64 o.t, .int .i64 o.q, .int .i64 o.z] 37)
  have hza : (w.alloc (.cells #[.int .i64 o.k, .int .i64 o.n, .int .i64 o.m, .int .i64 o.r.k, .int .i64 o.r.pr, .int .i64 o.r.to, .int .i64 o.r.po, .int .i64 o.r.x.v, .int .i64 o.r.x.m, .int .u8 o.r.x.b0, .int .u8 o.r.x.b1, .int .u8 o.r.x.b2, .int .u8 o.r.x.i0, .int .u8 o.r.x.i1, .int .u8 o.r.x.i2, .slice A n c, .int .i64 o.f, .int .i64 o.p, .int .i64 o.t, .int .i64 o.q, .int .i64 o.z] 37)).heap.size = w.heap.size + 1 := by simp
  have hxa : Vb 37 (w.alloc (.cells #[.int .i64 o.k, .int .i64 o.n, .int .i64 o.m, .int .i64 o.r.k, .int .i64 o.r.pr, .int .i64 o.r.to, .int .i64 o.r.po, .int .i64 o.r.x.v, .int .i64 o.r.x.m, .int .u8 o.r.x.b0, .int .u8 o.r.x.b1, .int .u8 o.r.x.b2, .int .u8 o.r.x.i0, .int .u8 o.r.x.i1, .int .u8 o.r.x.i2, .slice A n c, .int .i64 o.f, .int .i64 o.p, .int .i64 o.t, .int .i64 o.q, .int .i64 o.z] 37)) w.heap.size (ocl o (.slice A n c)) := Vb.new 37 w (ocl o (.slice A n c))
  have hA := h.below' hba hB
  have HK := Kp.mk hk
  clear hk
  go_enter Tryz.func12, Tryz.ntmps12
  go_upto_region 1 with fail
  generalize (w.alloc (.cells #[.int .i64 o.k, .int .i64 o.n, .int .i64 o.m, .int .i64 o.r.k, .int .i64 o.r.pr, .int .i64 o.r.to, .int .i64 o.r.po, .int .i64 o.r.x.v, .int .i64 o.r.x.m, .int .u8 o.r.x.b0, .int .u8 o.r.x.b1, .int .u8 o.r.x.b2, .int .u8 o.r.x.i0, .int .u8 o.r.x.i1, .int .u8 o.r.x.i2, .slice A n c, .int .i64 o.f, .int .i64 o.p, .int .i64 o.t, .int .i64 o.q, .int .i64 o.z] 37)) = wa at *
  obtain ⟨d0, d1, d2, d3, d4, d5, d6, d7, d8, d9, d10, d11, d12, d13, d14, d15, d16, d17, d18, d19, d20⟩ := hxa.ord
  rw [HK.out] at d0
  go_wp2_with fail
  refine (refZero_any o.r hA (by omega)).mono ?_
  rintro e w1 ⟨rfl, hb1⟩
  simp only [c0, c1, c2, c3]
  have hx1 := hxa.below hb1 (by omega)
  have hT1 := hba.trans (hb1.mono (by omega))
  have hz1 := hb1.size
  clear d0 d1 d2 d3 d4 d5 d6 d7 d8 d9 d10 d11 d12 d13 d14 d15 d16 d17 d18 d19 d20 hxa hb1
  obtain ⟨d0, d1, d2, d3, d4, d5, d6, d7, d8, d9, d10, d11, d12, d13, d14, d15, d16, d17, d18, d19, d20⟩ := hx1.ord
  rw [HK.out] at d0
  go_wp2_with (first | (go_at_call 38; refine (refIn_any _ _ _ _).mono ?_; rintro e w' ⟨rfl, rfl⟩; simp only [c0, c1, c2, c3]) | (go_at_call 37; refine (refIs_any _ _).mono ?_; rintro e w' ⟨rfl, rfl⟩))
  rw [hp.out]
  go_ret
  exact ⟨rfl, hT1⟩
theorem refOrderCheck_any {w : World} {B n c : Nat} {A : Option Addr} (o : OrdV) (h : Ro w B A n c o.r.os) (hB : B ≤ w.heap.size) : Calls Tryz.prog 12 #[.agg #[.int .i64 o.k, .int .i64 o.n, .int .i64 o.m, .int .i64 o.r.k, .int .i64 o.r.pr, .int .i64 o.r.to, .int .i64 o.r.po, .int .i64 o.r.x.v, .int .i64 o.r.x.m, .int .u8 o.r.x.b0, .int .u8 o.r.x.b1, .int .u8 o.r.x.b2, .int .u8 o.r.x.i0, .int .u8 o.r.x.i1, .int .u8 o.r.x.i2, .slice A n c, .int .i64 o.f, .int .i64 o.p, .int .i64 o.t, .int .i64 o.q, .int .i64 o.z]] w fun e w' => e = .returned (.int .i64 (checkO o)) ∧ Below w.heap.size w w' := by
  by_cases h1 : o.k = 1
  · by_cases c0 : (noneBo o.r) = true
    rotate_left
    · exact rc_none o h hB (by omega) (by omega) (by simpa using c0)
    by_cases c1 : (eqQB o.f o.p o.t o.q o.z 0 0 0 0 0) = true
    rotate_left
    · exact rc_probe o h hB (by omega) (by omega) (by omega) c0 (by simpa using c1)
    by_cases c2 : (o.n == 0) = true
    rotate_left
    · exact rc_1_2 o h hB h1 c0 c1 (by simpa using c2)
    by_cases c3 : (o.m == 0) = true
    rotate_left
    · exact rc_1_3 o h hB h1 c0 c1 c2 (by simpa using c3)
    exact rc_1_ok o h hB h1 c0 c1 c2 c3
  by_cases h2 : o.k = 2
  · by_cases c0 : (checkR o.r == 0) = true
    rotate_left
    · exact rc_2_0 o h hB h2  (by simpa using c0)
    by_cases c1 : (eqQB o.f o.p o.t o.q o.z 0 0 0 0 0) = true
    rotate_left
    · exact rc_2_1 o h hB h2 c0 (by simpa using c1)
    by_cases c2 : (o.n == 0) = true
    rotate_left
    · exact rc_2_2 o h hB h2 c0 c1 (by simpa using c2)
    by_cases c3 : (o.m == 0) = true
    rotate_left
    · exact rc_2_3 o h hB h2 c0 c1 c2 (by simpa using c3)
    exact rc_2_ok o h hB h2 c0 c1 c2 c3
  by_cases h3 : o.k = 3
  · by_cases c0 : (checkR o.r == 0) = true
    rotate_left
    · exact rc_3_0 o h hB h3  (by simpa using c0)
    by_cases c1 : (eqQB o.f o.p o.t o.q o.z 0 0 0 0 0) = true
    rotate_left
    · exact rc_3_1 o h hB h3 c0 (by simpa using c1)
    by_cases c2 : (o.n == 0) = true
    rotate_left
    · exact rc_3_2 o h hB h3 c0 c1 (by simpa using c2)
    by_cases c3 : (o.m == 0) = true
    rotate_left
    · exact rc_3_3 o h hB h3 c0 c1 c2 (by simpa using c3)
    exact rc_3_ok o h hB h3 c0 c1 c2 c3
  by_cases h4 : o.k = 4
  · by_cases c0 : (noneBo o.r) = true
    rotate_left
    · exact rc_none o h hB (by omega) (by omega) (by simpa using c0)
    by_cases c1 : (eqQB o.f o.p o.t o.q o.z 0 0 0 0 0) = true
    rotate_left
    · exact rc_probe o h hB (by omega) (by omega) (by omega) c0 (by simpa using c1)
    by_cases c2 : (inB o.n 0 200) = true
    rotate_left
    · exact rc_4_2 o h hB h4 c0 c1 (by simpa using c2)
    by_cases c3 : (o.m == 0) = true
    rotate_left
    · exact rc_4_3 o h hB h4 c0 c1 c2 (by simpa using c3)
    exact rc_4_ok o h hB h4 c0 c1 c2 c3
  by_cases h5 : o.k = 5
  · by_cases c0 : (noneBo o.r) = true
    rotate_left
    · exact rc_none o h hB (by omega) (by omega) (by simpa using c0)
    by_cases c1 : (eqQB o.f o.p o.t o.q o.z 0 0 0 0 0) = true
    rotate_left
    · exact rc_probe o h hB (by omega) (by omega) (by omega) c0 (by simpa using c1)
    by_cases c2 : (inB o.n 1 4) = true
    rotate_left
    · exact rc_5_2 o h hB h5 c0 c1 (by simpa using c2)
    by_cases c3 : (inB o.m 0 65535) = true
    rotate_left
    · exact rc_5_3 o h hB h5 c0 c1 c2 (by simpa using c3)
    exact rc_5_ok o h hB h5 c0 c1 c2 c3
  by_cases h6 : o.k = 6
  · by_cases c0 : (noneBo o.r) = true
    rotate_left
    · exact rc_none o h hB (by omega) (by omega) (by simpa using c0)
    by_cases c1 : (eqQB o.f o.p o.t o.q o.z 0 0 0 0 0) = true
    rotate_left
    · exact rc_probe o h hB (by omega) (by omega) (by omega) c0 (by simpa using c1)
    by_cases c2 : (inB o.n 0 4294967295) = true
    rotate_left
    · exact rc_6_2 o h hB h6 c0 c1 (by simpa using c2)
    by_cases c3 : (o.m == 0) = true
    rotate_left
    · exact rc_6_3 o h hB h6 c0 c1 c2 (by simpa using c3)
    exact rc_6_ok o h hB h6 c0 c1 c2 c3
  by_cases h7 : o.k = 7
  · by_cases c0 : (noneBo o.r) = true
    rotate_left
    · exact rc_none o h hB (by omega) (by omega) (by simpa using c0)
    by_cases c1 : (eqQB o.f o.p o.t o.q o.z 0 0 0 0 0) = true
    rotate_left
    · exact rc_probe o h hB (by omega) (by omega) (by omega) c0 (by simpa using c1)
    by_cases c2 : (inB o.n 0 4294967295) = true
    rotate_left
    · exact rc_7_2 o h hB h7 c0 c1 (by simpa using c2)
    by_cases c3 : (inB o.m 0 65535) = true
    rotate_left
    · exact rc_7_3 o h hB h7 c0 c1 c2 (by simpa using c3)
    exact rc_7_ok o h hB h7 c0 c1 c2 c3
  by_cases h8 : o.k = 8
  · by_cases c0 : (noneBo o.r) = true
    rotate_left
    · exact rc_none o h hB (by omega) (by omega) (by simpa using c0)
    by_cases c1 : (o.n == 0) = true
    rotate_left
    · exact rc_8_1 o h hB h8 c0 (by simpa using c1)
    by_cases c2 : (o.m == 0) = true
    rotate_left
    · exact rc_8_2 o h hB h8 c0 c1 (by simpa using c2)
    by_cases c3 : (checkQ o.f o.p o.t o.q o.z == 0) = true
    rotate_left
    · exact rc_8_3 o h hB h8 c0 c1 c2 (by simpa using c3)
    by_cases c4 : (decide (0 < o.t)) = true
    rotate_left
    · exact rc_8_4 o h hB h8 c0 c1 c2 c3 (by simpa using c4)
    exact rc_8_ok o h hB h8 c0 c1 c2 c3 c4
  by_cases h9 : o.k = 9
  · by_cases c0 : (noneBo o.r) = true
    rotate_left
    · exact rc_none o h hB (by omega) (by omega) (by simpa using c0)
    by_cases c1 : (eqQB o.f o.p o.t o.q o.z 0 0 0 0 0) = true
    rotate_left
    · exact rc_probe o h hB (by omega) (by omega) (by omega) c0 (by simpa using c1)
    by_cases c2 : (inB o.n 1 4) = true
    rotate_left
    · exact rc_9_2 o h hB h9 c0 c1 (by simpa using c2)
    by_cases c3 : (inB o.m 0 1) = true
    rotate_left
    · exact rc_9_3 o h hB h9 c0 c1 c2 (by simpa using c3)
    exact rc_9_ok o h hB h9 c0 c1 c2 c3
  by_cases c0 : noneBo o.r = true
  rotate_left
  · exact rc_none o h hB h2 h3 (by simpa using c0)
  by_cases c1 : eqQB o.f o.p o.t o.q o.z 0 0 0 0 0 = true
  rotate_left
  · exact rc_probe o h hB h2 h3 h8 c0 (by simpa using c1)
  exact rc_other o h hB (by omega) c0 c1
end Go.Proofs.YteambkehdbffmaaGreat.Oct
