/- Contracts of layer 6: Check, the program's. -/
import Derived.Test.YteambkehdbffmaaGreatOrdE
import Derived.Test.YteambkehdbffmaaGreatOrdL
namespace Go.Proofs.YteambkehdbffmaaGreat.Oct
open Go.RowKit
set_option linter.unusedVariables false
set_option linter.unusedSimpArgs false

def clrO (o : OrdV) : OrdV :=
  if o.k = 2 ∨ o.k = 3 then { o with r := noRule } else if o.k = 8 then { o with f := 0, p := 0, t := 0, q := 0, z := 0 } else
  if o.k = 4 ∨ o.k = 6 then { o with n := 0 } else if o.k = 5 ∨ o.k = 7 ∨ o.k = 9 then { o with n := 0, m := 0 } else o
def clrS (o : OrdV) (S : Value) : Value := if o.k = 2 ∨ o.k = 3 then .slice none 0 0 else S
theorem isK_iff (k : Int) : isK k = true ↔ (1 ≤ k ∧ k ≤ 9) := by unfold isK; simp
theorem inB_true {n a b : Int} : inB n a b = true ↔ (a ≤ n ∧ n ≤ b) := inB_iff n a b
theorem linkB_iff (f p t q z : Int) : linkB f p t q z = true ↔ (okQ f p t q z ∧ t ≠ 0) := by unfold linkB; simp [checkQ_zero]
theorem eqQB_zero (o : OrdV) : eqQB o.f o.p o.t o.q o.z 0 0 0 0 0 = true ↔ zeroQ o := by rw [eqQB_iff]; rfl
theorem bareB_iff (o : OrdV) : bareB o = true ↔ (o.n = 0 ∧ o.m = 0 ∧ zeroR o.r ∧ zeroQ o) := by
  unfold bareB
  simp only [Bool.and_eq_true, beq_iff_eq, noneBo_iff, eqQB_zero]
theorem zeroR_no : zeroR noRule := by unfold zeroR noRule zeroM noMask; simp
/-- What Check asks, together. -/
theorem okOrd_parts (o : OrdV) : okOrd o ↔ (isK o.k = true ∧ mayO o = true ∧ bareB (clrO o) = true) := by
  rw [bareB_iff, isK_iff]
  unfold okOrd okNM okRu okPr mayO clrO
  by_cases h2 : o.k = 2 ∨ o.k = 3
  · rw [if_pos h2, if_pos h2, if_pos h2, if_neg (by omega)]
    simp only [beq_iff_eq, checkR_zero]
    constructor
    · rintro ⟨a, b, c⟩
      refine ⟨by omega, b, by omega, by omega, zeroR_no, c⟩
    · rintro ⟨a, b, c, d, e, f⟩
      exact ⟨by omega, b, f⟩
  · rw [if_neg h2, if_neg h2, if_neg h2]
    by_cases h8 : o.k = 8
    · rw [if_pos h8, if_pos h8, if_pos h8, linkB_iff]
      constructor
      · rintro ⟨a, b, c⟩
        exact ⟨by omega, c, by simp only; omega, by simp only; omega, b, rfl, rfl, rfl, rfl, rfl⟩
      · rintro ⟨a, b, c, d, e, f⟩
        simp only at c d e
        exact ⟨by omega, e, b⟩
    · rw [if_neg h8, if_neg h8, if_neg h8]
      unfold numsOf
      by_cases h4 : o.k = 4
      · rw [if_pos h4, if_pos (by omega)]
        simp only [List.all_cons, List.all_nil, Bool.and_true, inB_true, numAt, if_pos, within]
        constructor
        · rintro ⟨a, b, c⟩; exact ⟨by omega, by omega, trivial, by omega, b, c⟩
        · rintro ⟨a, b, c, d, e, f⟩; exact ⟨by omega, e, f⟩
      by_cases h6 : o.k = 6
      · rw [if_neg h4, if_neg (by omega), if_pos h6, if_pos (by omega)]
        simp only [List.all_cons, List.all_nil, Bool.and_true, inB_true, numAt, if_pos, within]
        constructor
        · rintro ⟨a, b, c⟩; exact ⟨by omega, by omega, trivial, by omega, b, c⟩
        · rintro ⟨a, b, c, d, e, f⟩; exact ⟨by omega, e, f⟩
      by_cases h5 : o.k = 5
      · rw [if_neg h4, if_pos h5, if_neg (by omega), if_pos (by omega)]
        simp only [List.all_cons, List.all_nil, Bool.and_true, Bool.and_eq_true, inB_true, numAt, if_pos, within, if_neg (show ¬ (2 : Nat) = 1 by omega)]
        constructor
        · rintro ⟨a, b, c⟩; exact ⟨by omega, ⟨by omega, by omega⟩, trivial, trivial, b, c⟩
        · rintro ⟨a, ⟨b1, b2⟩, c, d, e, f⟩; exact ⟨by omega, e, f⟩
      by_cases h7 : o.k = 7
      · rw [if_neg h4, if_neg h5, if_neg h6, if_pos h7, if_neg (by omega), if_pos (by omega)]
        simp only [List.all_cons, List.all_nil, Bool.and_true, Bool.and_eq_true, inB_true, numAt, if_pos, within, if_neg (show ¬ (2 : Nat) = 1 by omega)]
        constructor
        · rintro ⟨a, b, c⟩; exact ⟨by omega, ⟨by omega, by omega⟩, trivial, trivial, b, c⟩
        · rintro ⟨a, ⟨b1, b2⟩, c, d, e, f⟩; exact ⟨by omega, e, f⟩
      by_cases h9 : o.k = 9
      · rw [if_neg h4, if_neg h5, if_neg h6, if_neg h7, if_pos h9, if_neg (by omega), if_pos (by omega)]
        simp only [List.all_cons, List.all_nil, Bool.and_true, Bool.and_eq_true, inB_true, numAt, if_pos, within, if_neg (show ¬ (2 : Nat) = 1 by omega)]
        constructor
        · rintro ⟨a, b, c⟩; exact ⟨by omega, ⟨by omega, by omega⟩, trivial, trivial, b, c⟩
        · rintro ⟨a, ⟨b1, b2⟩, c, d, e, f⟩; exact ⟨by omega, e, f⟩
      rw [if_neg h4, if_neg h5, if_neg h6, if_neg h7, if_neg h9, if_neg (by omega), if_neg (by omega)]
      simp only [List.all_nil, within]
      constructor
      · rintro ⟨a, b, c⟩; exact ⟨by omega, trivial, by omega, by omega, b, c⟩
      · rintro ⟨a, b, c, d, e, f⟩; exact ⟨by omega, e, f⟩
theorem numAt_1 (o : OrdV) : numAt o 1 = o.n := rfl
theorem numAt_2 (o : OrdV) : numAt o 2 = o.m := rfl
section
variable {w : World} {B lo g n c m : Nat} {S A : Option Addr} {o : OrdV}
theorem mayBe_any (hx : Vb 60 w g (ocl o (.slice S n c))) (h : Ro w B S n c o.r.os) (hB : B ≤ w.heap.size) (hR : Rn w lo g A m (numsOf o.k)) :
    Calls Tryz.prog 33 #[.agg #[.slice A m m, .pointer (ruP o.k g), .pointer (prP o.k g)]] w fun e w' => e = .returned (.bool (mayO o)) ∧ Below w.heap.size w w' := by
  obtain ⟨d0, d1, d2, d3, d4, d5, d6, d7, d8, d9, d10, d11, d12, d13, d14, d15, d16, d17, d18, d19, d20⟩ := hx.ord
  have hg := hx.lt
  unfold ruP prP mayO
  by_cases h2 : o.k = 2 ∨ o.k = 3
  · have hn : numsOf o.k = [] := by unfold numsOf; rw [if_neg (by omega), if_neg (by omega), if_neg (by omega), if_neg (by omega), if_neg (by omega)]
    rw [hn] at hR
    have hm := hR.1
    simp at hm
    subst hm
    rw [if_pos h2, if_neg (by omega), if_pos h2]
    exact mb_rule A o.r h hB hg ⟨d3, d4, d5, d6, d7, d8, d9, d10, d11, d12, d13, d14, d15⟩
  rw [if_neg h2, if_neg h2]
  by_cases h8 : o.k = 8
  · have hn : numsOf o.k = [] := by rw [h8]; rfl
    rw [hn] at hR
    have hm := hR.1
    simp at hm
    subst hm
    rw [if_pos h8, if_pos h8]
    exact mb_link A o.f o.p o.t o.q o.z hg ⟨d16, d17, d18, d19, d20⟩
  rw [if_neg h8, if_neg h8]

  by_cases h4k : o.k = 4
  · rw [h4k] at hR ⊢
    refine (mb_1 (o.n) hR hg d1).mono (fun e w' ⟨he, hb⟩ => ⟨by rw [he]; show _ = Ending.returned (.bool (_ && true)); rw [Bool.and_true]; rfl, hb⟩)
  by_cases h5k : o.k = 5
  · rw [h5k] at hR ⊢
    refine (mb_2 (o.n) (o.m) hR hg d1 d2).mono (fun e w' ⟨he, hb⟩ => ⟨by rw [he]; show _ = Ending.returned (.bool (_ && (_ && true))); rw [Bool.and_true]; rfl, hb⟩)
  by_cases h6k : o.k = 6
  · rw [h6k] at hR ⊢
    refine (mb_1 (o.n) hR hg d1).mono (fun e w' ⟨he, hb⟩ => ⟨by rw [he]; show _ = Ending.returned (.bool (_ && true)); rw [Bool.and_true]; rfl, hb⟩)
  by_cases h7k : o.k = 7
  · rw [h7k] at hR ⊢
    refine (mb_2 (o.n) (o.m) hR hg d1 d2).mono (fun e w' ⟨he, hb⟩ => ⟨by rw [he]; show _ = Ending.returned (.bool (_ && (_ && true))); rw [Bool.and_true]; rfl, hb⟩)
  by_cases h9k : o.k = 9
  · rw [h9k] at hR ⊢
    refine (mb_2 (o.n) (o.m) hR hg d1 d2).mono (fun e w' ⟨he, hb⟩ => ⟨by rw [he]; show _ = Ending.returned (.bool (_ && (_ && true))); rw [Bool.and_true]; rfl, hb⟩)
  have hn : numsOf o.k = [] := by unfold numsOf; rw [if_neg (by omega), if_neg (by omega), if_neg (by omega), if_neg (by omega), if_neg (by omega)]
  rw [hn] at hR ⊢
  have hm := hR.1
  simp at hm
  subst hm
  exact mb_none A
theorem clear_any (hx : Vb 60 w g (ocl o (.slice S n c))) (hR : Rn w lo g A m (numsOf o.k)) (hlo : g < lo) :
    Calls Tryz.prog 34 #[.agg #[.slice A m m, .pointer (ruP o.k g), .pointer (prP o.k g)]] w fun e w' => e = .returned (.tuple #[]) ∧ Vb 60 w' g (ocl (clrO o) (clrS o (.slice S n c))) ∧ Below g w w' := by
  unfold ruP prP clrO clrS
  by_cases h2 : o.k = 2 ∨ o.k = 3
  · have hn : numsOf o.k = [] := by unfold numsOf; rw [if_neg (by omega), if_neg (by omega), if_neg (by omega), if_neg (by omega), if_neg (by omega)]
    rw [hn] at hR
    have hm := hR.1
    simp at hm
    subst hm
    rw [if_pos h2, if_neg (by omega), if_pos h2, if_pos h2]
    exact cl_rule A (by simp [ocl]) hx
  rw [if_neg h2, if_neg h2, if_neg h2]
  by_cases h8 : o.k = 8
  · have hn : numsOf o.k = [] := by rw [h8]; rfl
    rw [hn] at hR
    have hm := hR.1
    simp at hm
    subst hm
    rw [if_pos h8, if_pos h8]
    exact cl_link A (by simp [ocl]) hx
  rw [if_neg h8, if_neg h8]
  by_cases h4k : o.k = 4
  · rw [if_pos (by omega)]
    rw [h4k] at hR
    exact cl_1 A hR hlo (by simp [ocl]) hx
  by_cases h5k : o.k = 5
  · rw [if_neg (by omega), if_pos (by omega)]
    rw [h5k] at hR
    exact cl_2 A hR hlo (by simp [ocl]) (by simp [ocl]) hx
  by_cases h6k : o.k = 6
  · rw [if_pos (by omega)]
    rw [h6k] at hR
    exact cl_1 A hR hlo (by simp [ocl]) hx
  by_cases h7k : o.k = 7
  · rw [if_neg (by omega), if_pos (by omega)]
    rw [h7k] at hR
    exact cl_2 A hR hlo (by simp [ocl]) (by simp [ocl]) hx
  by_cases h9k : o.k = 9
  · rw [if_neg (by omega), if_pos (by omega)]
    rw [h9k] at hR
    exact cl_2 A hR hlo (by simp [ocl]) (by simp [ocl]) hx
  have hn : numsOf o.k = [] := by unfold numsOf; rw [if_neg (by omega), if_neg (by omega), if_neg (by omega), if_neg (by omega), if_neg (by omega)]
  rw [if_neg (by omega), if_neg (by omega)]
  rw [hn] at hR
  have hm := hR.1
  simp at hm
  subst hm
  exact cl_none A hx
end
set_option maxRecDepth 100000 in
set_option maxHeartbeats 1600000 in
theorem isBare_any {w : World} {B g n c : Nat} {S : Option Addr} {o : OrdV} (hx : Vb 60 w g (ocl o (.slice S n c))) (h : Ro w B S n c o.r.os) (hB : B ≤ w.heap.size) : Calls Tryz.prog 35 #[.pointer (some ⟨g, 0, none⟩)] w fun e w' => e = .returned (.bool (bareB o)) ∧ Below w.heap.size w w' := by
  have HC := Kp.mk (isNone_any o.r h hB)
  have eQ : ∀ w, (Op.equalIn 10000 34 (.agg #[.int .i64 o.f, .int .i64 o.p, .int .i64 o.t, .int .i64 o.q, .int .i64 o.z]) (.agg #[.int .i64 0, .int .i64 0, .int .i64 0, .int .i64 0, .int .i64 0])).run Tryz.prog w = .ok (eqQB o.f o.p o.t o.q o.z 0 0 0 0 0) w := fun w => eq_probe o.f o.p o.t o.q o.z 0 0 0 0 0 w
  obtain ⟨d0, d1, d2, d3, d4, d5, d6, d7, d8, d9, d10, d11, d12, d13, d14, d15, d16, d17, d18, d19, d20⟩ := hx.ord
  by_cases c0 : (o.n == 0) = true
  rotate_left
  · have c0' : (o.n == 0) = false := by simpa using c0
    clear c0
    have hp := Kp.mk (show bareB o = false by unfold bareB; rw [c0']; rfl)
    go_enter Tryz.func35, Tryz.ntmps35
    go_wp2_with fail
    rw [hp.out]
    go_ret
    exact ⟨rfl, Below.refl _ _⟩
  by_cases c1 : (o.m == 0) = true
  rotate_left
  · have c1' : (o.m == 0) = false := by simpa using c1
    clear c1
    have hp := Kp.mk (show bareB o = false by unfold bareB; rw [c0, c1']; rfl)
    go_enter Tryz.func35, Tryz.ntmps35
    go_wp2_with fail
    rw [hp.out]
    go_ret
    exact ⟨rfl, Below.refl _ _⟩
  by_cases c2 : (noneBo o.r) = true
  rotate_left
  · have c2' : (noneBo o.r) = false := by simpa using c2
    clear c2
    have hp := Kp.mk (show bareB o = false by unfold bareB; rw [c0, c1, c2']; rfl)
    go_enter Tryz.func35, Tryz.ntmps35
    go_wp2_with fail
    refine HC.out.mono ?_
    rintro e w1 ⟨rfl, hb1⟩
    simp only [c0, c1, c2']
    have hx1 := hx.below hb1 hx.lt
    clear d0 d1 d2 d3 d4 d5 d6 d7 d8 d9 d10 d11 d12 d13 d14 d15 d16 d17 d18 d19 d20
    obtain ⟨d0, d1, d2, d3, d4, d5, d6, d7, d8, d9, d10, d11, d12, d13, d14, d15, d16, d17, d18, d19, d20⟩ := hx1.ord
    go_wp2_with fail
    rw [hp.out]
    go_ret
    exact ⟨rfl, hb1⟩
  by_cases c3 : (eqQB o.f o.p o.t o.q o.z 0 0 0 0 0) = true
  rotate_left
  · have c3' : (eqQB o.f o.p o.t o.q o.z 0 0 0 0 0) = false := by simpa using c3
    clear c3
    have hp := Kp.mk (show bareB o = false by unfold bareB; rw [c0, c1, c2, c3']; rfl)
    go_enter Tryz.func35, Tryz.ntmps35
    go_wp2_with fail
    refine HC.out.mono ?_
    rintro e w1 ⟨rfl, hb1⟩
    simp only [c0, c1, c2, c3']
    have hx1 := hx.below hb1 hx.lt
    clear d0 d1 d2 d3 d4 d5 d6 d7 d8 d9 d10 d11 d12 d13 d14 d15 d16 d17 d18 d19 d20
    obtain ⟨d0, d1, d2, d3, d4, d5, d6, d7, d8, d9, d10, d11, d12, d13, d14, d15, d16, d17, d18, d19, d20⟩ := hx1.ord
    go_wp2_with fail
    rw [hp.out]
    go_ret
    exact ⟨rfl, hb1⟩
  have hp := Kp.mk (show bareB o = true by unfold bareB; rw [c0, c1, c2, c3]; rfl)
  go_enter Tryz.func35, Tryz.ntmps35
  go_wp2_with fail
  refine HC.out.mono ?_
  rintro e w1 ⟨rfl, hb1⟩
  simp only [c0, c1, c2, c3]
  have hx1 := hx.below hb1 hx.lt
  clear d0 d1 d2 d3 d4 d5 d6 d7 d8 d9 d10 d11 d12 d13 d14 d15 d16 d17 d18 d19 d20
  obtain ⟨d0, d1, d2, d3, d4, d5, d6, d7, d8, d9, d10, d11, d12, d13, d14, d15, d16, d17, d18, d19, d20⟩ := hx1.ord
  go_wp2_with fail
  rw [hp.out]
  go_ret
  exact ⟨rfl, hb1⟩
theorem checkO_no {o : OrdV} (h : ¬ (isK o.k = true ∧ mayO o = true ∧ bareB (clrO o) = true)) : checkO o = 2 := if_neg (fun hh => h ((okOrd_parts o).1 hh))
theorem checkO_yes {o : OrdV} (h : isK o.k = true ∧ mayO o = true ∧ bareB (clrO o) = true) : checkO o = 0 := if_pos ((okOrd_parts o).2 h)
/-- A row that is cleared or stays. -/
theorem clrS_row {w : World} {B n c : Nat} {S : Option Addr} {o : OrdV} (h : Ro w B S n c o.r.os) : ∃ S' n' c', clrS o (.slice S n c) = .slice S' n' c' ∧ Ro w B S' n' c' (clrO o).r.os := by
  unfold clrS clrO
  by_cases h2 : o.k = 2 ∨ o.k = 3
  · rw [if_pos h2, if_pos h2]; exact ⟨none, 0, 0, rfl, Ro.nil _ _⟩
  · rw [if_neg h2, if_neg h2]
    refine ⟨S, n, c, rfl, ?_⟩
    split
    · exact h
    · split
      · exact h
      · split
        · exact h
        · exact h
set_option maxRecDepth 100000 in
set_option maxHeartbeats 1600000 in
theorem orderCheck_0 {w : World} {B n c : Nat} {A : Option Addr} (o : OrdV) (h : Ro w B A n c o.r.os) (hB : B ≤ w.heap.size) (c0' : isK o.k = false) : Calls Tryz.prog 11 #[.agg #[.int .i64 o.k, .int .i64 o.n, .int .i64 o.m, .int .i64 o.r.k, .int .i64 o.r.pr, .int .i64 o.r.to, .int .i64 o.r.po, .int .i64 o.r.x.v, .int .i64 o.r.x.m, .int .u8 o.r.x.b0, .int .u8 o.r.x.b1, .int .u8 o.r.x.b2, .int .u8 o.r.x.i0, .int .u8 o.r.x.i1, .int .u8 o.r.x.i2, .slice A n c, .int .i64 o.f, .int .i64 o.p, .int .i64 o.t, .int .i64 o.q, .int .i64 o.z]] w fun e w' => e = .returned (.int .i64 (checkO o)) ∧ Below w.heap.size w w' := by
  have hp := Kp.mk (checkO_no (o := o) (fun hh => by have := hh.1; rw [c0'] at this; simp at this))
  have hba := below_alloc w (.cells #[.int .i64 o.k, .int .i64 o.n, .int .i64 o.m, .int .i64 o.r.k, .int .i64 o.r.pr, .int .i64 o.r.to, .int .i64 o.r.po, .int .i64 o.r.x.v, .int .i64 o.r.x.m, .int .u8 o.r.x.b0, .int .u8 o.r.x.b1, .int .u8 o.r.x.b2, .int .u8 o.r.x.i0, .int .u8 o.r.x.i1, .int .u8 o.r.x.i2, .slice A n c, .int .i64 o.f, .int .i64 o.p, .int .i64 o.t, .int .i64 o.q, .int .i64 o.z] 37)
  have hza : (w.alloc (.cells #[.int .i64 o.k, .int .i64 o.n, .int .i64 o.m, .int .i64 o.r.k, .int .i64 o.r.pr, .int .i64 o.r.to, .int .i64 o.r.po, .int .i64 o.r.x.v, .int .i64 o.r.x.m, .int .u8 o.r.x.b0, .int .u8 o.r.x.b1, .int .u8 o.r.x.b2, .int .u8 o.r.x.i0, .int .u8 o.r.x.i1, .int .u8 o.r.x.i2, .slice A n c, .int .i64 o.f, .int .i64 o.p, .int .i64 o.t, .int .i64 o.q, .int .i64 o.z] 37)).heap.size = w.heap.size + 1 := by simp
  have hxa : Vb 37 (w.alloc (.cells #[.int .i64 o.k, .int .i64 o.n, .int .i64 o.m, .int .i64 o.r.k, .int .i64 o.r.pr, .int .i64 o.r.to, .int .i64 o.r.po, .int .i64 o.r.x.v, .int .i64 o.r.x.m, .int .u8 o.r.x.b0, .int .u8 o.r.x.b1, .int .u8 o.r.x.b2, .int .u8 o.r.x.i0, .int .u8 o.r.x.i1, .int .u8 o.r.x.i2, .slice A n c, .int .i64 o.f, .int .i64 o.p, .int .i64 o.t, .int .i64 o.q, .int .i64 o.z] 37)) w.heap.size (ocl o (.slice A n c)) := Vb.new 37 w (ocl o (.slice A n c))
  go_enter Tryz.func11, Tryz.ntmps11
  go_upto_region 1 with fail
  generalize (w.alloc (.cells #[.int .i64 o.k, .int .i64 o.n, .int .i64 o.m, .int .i64 o.r.k, .int .i64 o.r.pr, .int .i64 o.r.to, .int .i64 o.r.po, .int .i64 o.r.x.v, .int .i64 o.r.x.m, .int .u8 o.r.x.b0, .int .u8 o.r.x.b1, .int .u8 o.r.x.b2, .int .u8 o.r.x.i0, .int .u8 o.r.x.i1, .int .u8 o.r.x.i2, .slice A n c, .int .i64 o.f, .int .i64 o.p, .int .i64 o.t, .int .i64 o.q, .int .i64 o.z] 37)) = wa at *
  go_upto_region 2 with (first | (refine wpList_load_vb (vs := ocl o (.slice A n c)) rfl (.tmp 1) rfl rfl hxa rfl agg_order ?_) | (refine wpList_store_new (vs := ocl o (.slice A n c)) rfl (.tmp 3) (.tmp 6) rfl rfl rfl rfl (by omega) rfl agg_own rfl ?_; intro w0 hx0 hbn hz0))
  have hb0 := hba.trans (hbn.mono (by omega))
  have h0 := h.below' hb0 hB
  have hz0' : w0.heap.size = w.heap.size + 2 := by omega
  clear hxa hba hbn
  go_wp2_with fail
  refine (partsOf_any (w.heap.size + 1) w0 o.k hx0.ord.1).mono ?_
  rintro e w1 ⟨Q, m, rfl, hR1, hb1⟩
  have hx1 := hx0.below hb1 (by omega)
  have h1 := h0.below' hb1 (by omega)
  have hz1 := hb1.size
  simp only [c0']
  go_wp2_with fail
  rw [hp.out]
  go_ret
  exact ⟨rfl, hb0.trans ((hb1.mono (by omega)).trans ((below_alloc w1 (.cells #[.slice Q m m, .pointer (ruP o.k (w.heap.size + 1)), .pointer (prP o.k (w.heap.size + 1))] 65)).mono (by omega)))⟩
set_option maxRecDepth 100000 in
set_option maxHeartbeats 1600000 in
theorem orderCheck_1 {w : World} {B n c : Nat} {A : Option Addr} (o : OrdV) (h : Ro w B A n c o.r.os) (hB : B ≤ w.heap.size) (c0 : isK o.k = true) (c1' : mayO o = false) : Calls Tryz.prog 11 #[.agg #[.int .i64 o.k, .int .i64 o.n, .int .i64 o.m, .int .i64 o.r.k, .int .i64 o.r.pr, .int .i64 o.r.to, .int .i64 o.r.po, .int .i64 o.r.x.v, .int .i64 o.r.x.m, .int .u8 o.r.x.b0, .int .u8 o.r.x.b1, .int .u8 o.r.x.b2, .int .u8 o.r.x.i0, .int .u8 o.r.x.i1, .int .u8 o.r.x.i2, .slice A n c, .int .i64 o.f, .int .i64 o.p, .int .i64 o.t, .int .i64 o.q, .int .i64 o.z]] w fun e w' => e = .returned (.int .i64 (checkO o)) ∧ Below w.heap.size w w' := by
  have hp := Kp.mk (checkO_no (o := o) (fun hh => by have := hh.2.1; rw [c1'] at this; simp at this))
  have hba := below_alloc w (.cells #[.int .i64 o.k, .int .i64 o.n, .int .i64 o.m, .int .i64 o.r.k, .int .i64 o.r.pr, .int .i64 o.r.to, .int .i64 o.r.po, .int .i64 o.r.x.v, .int .i64 o.r.x.m, .int .u8 o.r.x.b0, .int .u8 o.r.x.b1, .int .u8 o.r.x.b2, .int .u8 o.r.x.i0, .int .u8 o.r.x.i1, .int .u8 o.r.x.i2, .slice A n c, .int .i64 o.f, .int .i64 o.p, .int .i64 o.t, .int .i64 o.q, .int .i64 o.z] 37)
  have hza : (w.alloc (.cells #[.int .i64 o.k, .int .i64 o.n, .int .i64 o.m, .int .i64 o.r.k, .int .i64 o.r.pr, .int .i64 o.r.to, .int .i64 o.r.po, .int .i64 o.r.x.v, .int .i64 o.r.x.m, .int .u8 o.r.x.b0, .int .u8 o.r.x.b1, .int .u8 o.r.x.b2, .int .u8 o.r.x.i0, .int .u8 o.r.x.i1, .int .u8 o.r.x.i2, .slice A n c, .int .i64 o.f, .int .i64 o.p, .int .i64 o.t, .int .i64 o.q, .int .i64 o.z] 37)).heap.size = w.heap.size + 1 := by simp
  have hxa : Vb 37 (w.alloc (.cells #[.int .i64 o.k, .int .i64 o.n, .int .i64 o.m, .int .i64 o.r.k, .int .i64 o.r.pr, .int .i64 o.r.to, .int .i64 o.r.po, .int .i64 o.r.x.v, .int .i64 o.r.x.m, .int .u8 o.r.x.b0, .int .u8 o.r.x.b1, .int .u8 o.r.x.b2, .int .u8 o.r.x.i0, .int .u8 o.r.x.i1, .int .u8 o.r.x.i2, .slice A n c, .int .i64 o.f, .int .i64 o.p, .int .i64 o.t, .int .i64 o.q, .int .i64 o.z] 37)) w.heap.size (ocl o (.slice A n c)) := Vb.new 37 w (ocl o (.slice A n c))
  go_enter Tryz.func11, Tryz.ntmps11
  go_upto_region 1 with fail
  generalize (w.alloc (.cells #[.int .i64 o.k, .int .i64 o.n, .int .i64 o.m, .int .i64 o.r.k, .int .i64 o.r.pr, .int .i64 o.r.to, .int .i64 o.r.po, .int .i64 o.r.x.v, .int .i64 o.r.x.m, .int .u8 o.r.x.b0, .int .u8 o.r.x.b1, .int .u8 o.r.x.b2, .int .u8 o.r.x.i0, .int .u8 o.r.x.i1, .int .u8 o.r.x.i2, .slice A n c, .int .i64 o.f, .int .i64 o.p, .int .i64 o.t, .int .i64 o.q, .int .i64 o.z] 37)) = wa at *
  go_upto_region 2 with (first | (refine wpList_load_vb (vs := ocl o (.slice A n c)) rfl (.tmp 1) rfl rfl hxa rfl agg_order ?_) | (refine wpList_store_new (vs := ocl o (.slice A n c)) rfl (.tmp 3) (.tmp 6) rfl rfl rfl rfl (by omega) rfl agg_own rfl ?_; intro w0 hx0 hbn hz0))
  have hb0 := hba.trans (hbn.mono (by omega))
  have h0 := h.below' hb0 hB
  have hz0' : w0.heap.size = w.heap.size + 2 := by omega
  clear hxa hba hbn
  go_wp2_with fail
  refine (partsOf_any (w.heap.size + 1) w0 o.k hx0.ord.1).mono ?_
  rintro e w1 ⟨Q, m, rfl, hR1, hb1⟩
  have hx1 := hx0.below hb1 (by omega)
  have h1 := h0.below' hb1 (by omega)
  have hz1 := hb1.size
  simp only [c0]
  have hba := below_alloc w1 (.cells #[.slice Q m m, .pointer (ruP o.k (w.heap.size + 1)), .pointer (prP o.k (w.heap.size + 1))] 65)
  have hv2 := Vb.new 65 w1 [.slice Q m m, .pointer (ruP o.k (w.heap.size + 1)), .pointer (prP o.k (w.heap.size + 1))]
  have hx2 := hx1.below hba (by omega)
  have h2 := h1.below' hba (by omega)
  have hR2 := hR1.below hba
  have hz2 : (w1.alloc (.cells #[.slice Q m m, .pointer (ruP o.k (w.heap.size + 1)), .pointer (prP o.k (w.heap.size + 1))] 65)).heap.size = w1.heap.size + 1 := by simp
  have hT2 := hb0.trans ((hb1.mono (by omega)).trans (hba.mono (by omega)))
  go_upto_region 3 with fail
  generalize w1.alloc (.cells #[.slice Q m m, .pointer (ruP o.k (w.heap.size + 1)), .pointer (prP o.k (w.heap.size + 1))] 65) = w2 at *
  obtain ⟨d0, d1, d2⟩ := hv2.c3
  go_wp2_with fail
  refine (mayBe_any hx2 h2 (by omega) hR2).mono ?_
  rintro e w3 ⟨rfl, hb3⟩
  simp only [c1']
  go_wp2_with fail
  rw [hp.out]
  go_ret
  exact ⟨rfl, hT2.trans (hb3.mono (by omega))⟩
set_option maxRecDepth 100000 in
set_option maxHeartbeats 1600000 in
theorem orderCheck_2 {w : World} {B n c : Nat} {A : Option Addr} (o : OrdV) (h : Ro w B A n c o.r.os) (hB : B ≤ w.heap.size) (c0 : isK o.k = true) (c1 : mayO o = true) (c2' : bareB (clrO o) = false) : Calls Tryz.prog 11 #[.agg #[.int .i64 o.k, .int .i64 o.n, .int .i64 o.m, .int .i64 o.r.k, .int .i64 o.r.pr, .int .i64 o.r.to, .int .i64 o.r.po, .int .i64 o.r.x.v, .int .i64 o.r.x.m, .int .u8 o.r.x.b0, .int .u8 o.r.x.b1, .int .u8 o.r.x.b2, .int .u8 o.r.x.i0, .int .u8 o.r.x.i1, .int .u8 o.r.x.i2, .slice A n c, .int .i64 o.f, .int .i64 o.p, .int .i64 o.t, .int .i64 o.q, .int .i64 o.z]] w fun e w' => e = .returned (.int .i64 (checkO o)) ∧ Below w.heap.size w w' := by
  have hp := Kp.mk (checkO_no (o := o) (fun hh => by have := hh.2.2; rw [c2'] at this; simp at this))
  have hba := below_alloc w (.cells #[.int .i64 o.k, .int .i64 o.n, .int .i64 o.m, .int .i64 o.r.k, .int .i64 o.r.pr, .int .i64 o.r.to, .int .i64 o.r.po, .int .i64 o.r.x.v, .int .i64 o.r.x.m, .int .u8 o.r.x.b0, .int .u8 o.r.x.b1, .int .u8 o.r.x.b2, .int .u8 o.r.x.i0, .int .u8 o.r.x.i1, .int .u8 o.r.x.i2, .slice A n c, .int .i64 o.f, .int .i64 o.p, .int .i64 o.t, .int .i64 o.q, .int .i64 o.z] 37)
  have hza : (w.alloc (.cells #[.int .i64 o.k, .int .i64 o.n, .int .i64 o.m, .int .i64 o.r.k, .int .i64 o.r.pr, .int .i64 o.r.to, .int .i64 o.r.po, .int .i64 o.r.x.v, .int .i64 o.r.x.m, .int .u8 o.r.x.b0, .int .u8 o.r.x.b1, .int .u8 o.r.x.b2, .int .u8 o.r.x.i0, .int .u8 o.r.x.i1, .int .u8 o.r.x.i2, .slice A n c, .int .i64 o.f, .int .i64 o.p, .int .i64 o.t, .int .i64 o.q, .int .i64 o.z] 37)).heap.size = w.heap.size + 1 := by simp
  have hxa : Vb 37 (w.alloc (.cells #[.int .i64 o.k, .int .i64 o.n, .int .i64 o.m, .int .i64 o.r.k, .int .i64 o.r.pr, .int .i64 o.r.to, .int .i64 o.r.po, .int .i64 o.r.x.v, .int .i64 o.r.x.m, .int .u8 o.r.x.b0, .int .u8 o.r.x.b1, .int .u8 o.r.x.b2, .int .u8 o.r.x.i0, .int .u8 o.r.x.i1, .int .u8 o.r.x.i2, .slice A n c, .int .i64 o.f, .int .i64 o.p, .int .i64 o.t, .int .i64 o.q, .int .i64 o.z] 37)) w.heap.size (ocl o (.slice A n c)) := Vb.new 37 w (ocl o (.slice A n c))
  go_enter Tryz.func11, Tryz.ntmps11
  go_upto_region 1 with fail
  generalize (w.alloc (.cells #[.int .i64 o.k, .int .i64 o.n, .int .i64 o.m, .int .i64 o.r.k, .int .i64 o.r.pr, .int .i64 o.r.to, .int .i64 o.r.po, .int .i64 o.r.x.v, .int .i64 o.r.x.m, .int .u8 o.r.x.b0, .int .u8 o.r.x.b1, .int .u8 o.r.x.b2, .int .u8 o.r.x.i0, .int .u8 o.r.x.i1, .int .u8 o.r.x.i2, .slice A n c, .int .i64 o.f, .int .i64 o.p, .int .i64 o.t, .int .i64 o.q, .int .i64 o.z] 37)) = wa at *
  go_upto_region 2 with (first | (refine wpList_load_vb (vs := ocl o (.slice A n c)) rfl (.tmp 1) rfl rfl hxa rfl agg_order ?_) | (refine wpList_store_new (vs := ocl o (.slice A n c)) rfl (.tmp 3) (.tmp 6) rfl rfl rfl rfl (by omega) rfl agg_own rfl ?_; intro w0 hx0 hbn hz0))
  have hb0 := hba.trans (hbn.mono (by omega))
  have h0 := h.below' hb0 hB
  have hz0' : w0.heap.size = w.heap.size + 2 := by omega
  clear hxa hba hbn
  go_wp2_with fail
  refine (partsOf_any (w.heap.size + 1) w0 o.k hx0.ord.1).mono ?_
  rintro e w1 ⟨Q, m, rfl, hR1, hb1⟩
  have hx1 := hx0.below hb1 (by omega)
  have h1 := h0.below' hb1 (by omega)
  have hz1 := hb1.size
  simp only [c0]
  have hba := below_alloc w1 (.cells #[.slice Q m m, .pointer (ruP o.k (w.heap.size + 1)), .pointer (prP o.k (w.heap.size + 1))] 65)
  have hv2 := Vb.new 65 w1 [.slice Q m m, .pointer (ruP o.k (w.heap.size + 1)), .pointer (prP o.k (w.heap.size + 1))]
  have hx2 := hx1.below hba (by omega)
  have h2 := h1.below' hba (by omega)
  have hR2 := hR1.below hba
  have hz2 : (w1.alloc (.cells #[.slice Q m m, .pointer (ruP o.k (w.heap.size + 1)), .pointer (prP o.k (w.heap.size + 1))] 65)).heap.size = w1.heap.size + 1 := by simp
  have hT2 := hb0.trans ((hb1.mono (by omega)).trans (hba.mono (by omega)))
  go_upto_region 3 with fail
  generalize w1.alloc (.cells #[.slice Q m m, .pointer (ruP o.k (w.heap.size + 1)), .pointer (prP o.k (w.heap.size + 1))] 65) = w2 at *
  obtain ⟨d0, d1, d2⟩ := hv2.c3
  go_wp2_with fail
  refine (mayBe_any hx2 h2 (by omega) hR2).mono ?_
  rintro e w3 ⟨rfl, hb3⟩
  simp only [c1]
  have hx3 := hx2.below hb3 (by omega)
  have h3 := h2.below' hb3 (by omega)
  have hR3 := hR2.below hb3
  have hv3 := hv2.below hb3 (by omega)
  have hT3 := hT2.trans (hb3.mono (by omega))
  have hz3 := hb3.size
  clear d0 d1 d2
  obtain ⟨d0, d1, d2⟩ := hv3.c3
  go_wp2_with fail
  refine (clear_any hx3 (hR3.lower (lo' := w.heap.size + 2) (by omega)) (by omega)).mono ?_
  rintro e w4 ⟨rfl, hx4, hb4⟩
  have hz4 := hb4.size
  have h4 := h3.below' hb4 (by omega)
  obtain ⟨S', n', c', eS, h4'⟩ := clrS_row h4
  rw [eS] at hx4
  go_wp2_with fail
  refine (isBare_any hx4 h4' (by omega)).mono ?_
  rintro e w5 ⟨rfl, hb5⟩
  simp only [c2']
  go_wp2_with fail
  rw [hp.out]
  go_ret
  exact ⟨rfl, hT3.trans ((hb4.mono (by omega)).trans (hb5.mono (by omega)))⟩
set_option maxRecDepth 100000 in
set_option maxHeartbeats 1600000 in
theorem orderCheck_3 {w : World} {B n c : Nat} {A : Option Addr} (o : OrdV) (h : Ro w B A n c o.r.os) (hB : B ≤ w.heap.size) (c0 : isK o.k = true) (c1 : mayO o = true) (c2 : bareB (clrO o) = true) : Calls Tryz.prog 11 #[.agg #[.int .i64 o.k, .int .i64 o.n, .int .i64 o.m, .int .i64 o.r.k, .int .i64 o.r.pr, .int .i64 o.r.to, .int .i64 o.r.po, .int .i64 o.r.x.v, .int .i64 o.r.x.m, .int .u8 o.r.x.b0, .int .u8 o.r.x.b1, .int .u8 o.r.x.b2, .int .u8 o.r.x.i0, .int .u8 o.r.x.i1, .int .u8 o.r.x.i2, .slice A n c, .int .i64 o.f, .int .i64 o.p, .int .i64 o.t, .int .i64 o.q, .int .i64 o.z]] w fun e w' => e = .returned (.int .i64 (checkO o)) ∧ Below w.heap.size w w' := by
  have hp := Kp.mk (checkO_yes (o := o) ⟨c0, c1, c2⟩)
  have hba := below_alloc w (.cells #[.int .i64 o.k, .int .i64 o.n, .int .i64 o.m, .int .i64 o.r.k, .int .i64 o.r.pr, .int .i64 o.r.to, .int .i64 o.r.po, .int .i64 o.r.x.v, .int .i64 o.r.x.m, .int .u8 o.r.x.b0, .int .u8 o.r.x.b1, .int .u8 o.r.x.b2, .int .u8 o.r.x.i0, .int .u8 o.r.x.i1, .int .u8 o.r.x.i2, .slice A n c, .int .i64 o.f, .int .i64 o.p, .int .i64 o.t, .int .i64 o.q, .int .i64 o.z] 37)
  have hza : (w.alloc (.cells #[.int .i64 o.k, .int .i64 o.n, .int .i64 o.m, .int .i64 o.r.k, .int .i64 o.r.pr, .int .i64 o.r.to, .int .i64 o.r.po, .int .i64 o.r.x.v, .int .i64 o.r.x.m, .int .u8 o.r.x.b0, .int .u8 o.r.x.b1, .int .u8 o.r.x.b2, .int .u8 o.r.x.i0, .int .u8 o.r.x.i1, .int .u8 o.r.x.i2, .slice A n c, .int .i64 o.f, .int .i64 o.p, .int .i64 o.t, .int .i64 o.q, .int .i64 o.z] 37)).heap.size = w.heap.size + 1 := by simp
  have hxa : Vb 37 (w.alloc (.cells #[.int .i64 o.k, .int .i64 o.n, .int .i64 o.m, .int .i64 o.r.k, .int .i64 o.r.pr, .int .i64 o.r.to, .int .i64 o.r.po, .int .i64 o.r.x.v, .int .i64 o.r.x.m, .int .u8 o.r.x.b0, .int .u8 o.r.x.b1, .int .u8 o.r.x.b2, .int .u8 o.r.x.i0, .int .u8 o.r.x.i1, .int .u8 o.r.x.i2, .slice A n c, .int .i64 o.f, .int .i64 o.p, .int .i64 o.t, .int .i64 o.q, .int .i64 o.z] 37)) w.heap.size (ocl o (.slice A n c)) := Vb.new 37 w (ocl o (.slice A n c))
  go_enter Tryz.func11, Tryz.ntmps11
  go_upto_region 1 with fail
  generalize (w.alloc (.cells #[.int .i64 o.k, .int .i64 o.n, .int .i64 o.m, .int .i64 o.r.k, .int .i64 o.r.pr, .int .i64 o.r.to, .int .i64 o.r.po, .int .i64 o.r.x.v, .int .i64 o.r.x.m, .int .u8 o.r.x.b0, .int .u8 o.r.x.b1, .int .u8 o.r.x.b2, .int .u8 o.r.x.i0, .int .u8 o.r.x.i1, .int .u8 o.r.x.i2, .slice A n c, .int .i64 o.f, .int .i64 o.p, .int .i64 o.t, .int .i64 o.q, .int .i64 o.z] 37)) = wa at *
  go_upto_region 2 with (first | (refine wpList_load_vb (vs := ocl o (.slice A n c)) rfl (.tmp 1) rfl rfl hxa rfl agg_order ?_) | (refine wpList_store_new (vs := ocl o (.slice A n c)) rfl (.tmp 3) (.tmp 6) rfl rfl rfl rfl (by omega) rfl agg_own rfl ?_; intro w0 hx0 hbn hz0))
  have hb0 := hba.trans (hbn.mono (by omega))
  have h0 := h.below' hb0 hB
  have hz0' : w0.heap.size = w.heap.size + 2 := by omega
  clear hxa hba hbn
  go_wp2_with fail
  refine (partsOf_any (w.heap.size + 1) w0 o.k hx0.ord.1).mono ?_
  rintro e w1 ⟨Q, m, rfl, hR1, hb1⟩
  have hx1 := hx0.below hb1 (by omega)
  have h1 := h0.below' hb1 (by omega)
  have hz1 := hb1.size
  simp only [c0]
  have hba := below_alloc w1 (.cells #[.slice Q m m, .pointer (ruP o.k (w.heap.size + 1)), .pointer (prP o.k (w.heap.size + 1))] 65)
  have hv2 := Vb.new 65 w1 [.slice Q m m, .pointer (ruP o.k (w.heap.size + 1)), .pointer (prP o.k (w.heap.size + 1))]
  have hx2 := hx1.below hba (by omega)
  have h2 := h1.below' hba (by omega)
  have hR2 := hR1.below hba
  have hz2 : (w1.alloc (.cells #[.slice Q m m, .pointer (ruP o.k (w.heap.size + 1)), .pointer (prP o.k (w.heap.size + 1))] 65)).heap.size = w1.heap.size + 1 := by simp
  have hT2 := hb0.trans ((hb1.mono (by omega)).trans (hba.mono (by omega)))
  go_upto_region 3 with fail
  generalize w1.alloc (.cells #[.slice Q m m, .pointer (ruP o.k (w.heap.size + 1)), .pointer (prP o.k (w.heap.size + 1))] 65) = w2 at *
  obtain ⟨d0, d1, d2⟩ := hv2.c3
  go_wp2_with fail
  refine (mayBe_any hx2 h2 (by omega) hR2).mono ?_
  rintro e w3 ⟨rfl, hb3⟩
  simp only [c1]
  have hx3 := hx2.below hb3 (by omega)
  have h3 := h2.below' hb3 (by omega)
  have hR3 := hR2.below hb3
  have hv3 := hv2.below hb3 (by omega)
  have hT3 := hT2.trans (hb3.mono (by omega))
  have hz3 := hb3.size
  clear d0 d1 d2
  obtain ⟨d0, d1, d2⟩ := hv3.c3
  go_wp2_with fail
  refine (clear_any hx3 (hR3.lower (lo' := w.heap.size + 2) (by omega)) (by omega)).mono ?_
  rintro e w4 ⟨rfl, hx4, hb4⟩
  have hz4 := hb4.size
  have h4 := h3.below' hb4 (by omega)
  obtain ⟨S', n', c', eS, h4'⟩ := clrS_row h4
  rw [eS] at hx4
  go_wp2_with fail
  refine (isBare_any hx4 h4' (by omega)).mono ?_
  rintro e w5 ⟨rfl, hb5⟩
  simp only [c2]
  go_wp2_with fail
  rw [hp.out]
  go_ret
  exact ⟨rfl, hT3.trans ((hb4.mono (by omega)).trans (hb5.mono (by omega)))⟩
theorem orderCheck_any {w : World} {B n c : Nat} {A : Option Addr} (o : OrdV) (h : Ro w B A n c o.r.os) (hB : B ≤ w.heap.size) : Calls Tryz.prog 11 #[.agg #[.int .i64 o.k, .int .i64 o.n, .int .i64 o.m, .int .i64 o.r.k, .int .i64 o.r.pr, .int .i64 o.r.to, .int .i64 o.r.po, .int .i64 o.r.x.v, .int .i64 o.r.x.m, .int .u8 o.r.x.b0, .int .u8 o.r.x.b1, .int .u8 o.r.x.b2, .int .u8 o.r.x.i0, .int .u8 o.r.x.i1, .int .u8 o.r.x.i2, .slice A n c, .int .i64 o.f, .int .i64 o.p, .int .i64 o.t, .int .i64 o.q, .int .i64 o.z]] w fun e w' => e = .returned (.int .i64 (checkO o)) ∧ Below w.heap.size w w' := by
  by_cases c0 : isK o.k = true
  rotate_left
  · exact orderCheck_0 o h hB  (by simpa using c0)
  by_cases c1 : mayO o = true
  rotate_left
  · exact orderCheck_1 o h hB c0 (by simpa using c1)
  by_cases c2 : bareB (clrO o) = true
  rotate_left
  · exact orderCheck_2 o h hB c0 c1 (by simpa using c2)
  exact orderCheck_3 o h hB c0 c1 c2
end Go.Proofs.YteambkehdbffmaaGreat.Oct
