/- Contracts of layer 8: how numbers and bytes compare; what the closures read. -/
import Derived.Test.YtcolklkjaifplaaOrdT
import Derived.Test.YtcolklkjaifplaaOctZ
import Derived.LoopN
import Derived.StillTailTactics
namespace Go.Proofs.Ytcolklkjaifplaa.Oct
open Go.RowKit
set_option linter.unusedVariables false
set_option linter.unusedSimpArgs false

/-- Which of two numbers is less: -1, 0, 1. -/
def cmpI (a b : Int) : Int := if a < b then -1 else if b < a then 1 else 0
theorem cmpI_bd (a b : Int) : cmpI a b = -1 ∨ cmpI a b = 0 ∨ cmpI a b = 1 := by unfold cmpI; split <;> (try split) <;> simp
/-- The first that is not 0. -/
def orL : List Int → Int
  | [] => 0
  | x :: l => if x = 0 then orL l else x
/-- Three bytes and three bytes. -/
def lex3 (a b c x y z : Int) : Int := orL [cmpI a x, cmpI b y, cmpI c z]
theorem isNaN_int (a : Int) (w : World) : Calls Try.prog 108 #[.int .i64 a] w fun e w' => e = .returned (.bool false) ∧ w = w' := by
  have h : (a != a) = false := by simp
  go_enter Try.func108, Try.ntmps108
  go_wp2_with fail
  go_ret
  exact ⟨rfl, rfl⟩
theorem cmp_int (a b : Int) (w : World) : Calls Try.prog 98 #[.int .i64 a, .int .i64 b] w fun e w' => e = .returned (.int .i64 (cmpI a b)) ∧ w = w' := by
  by_cases h1 : a < b
  · have hp := Kp.mk (show cmpI a b = -1 by unfold cmpI; rw [if_pos h1])
    go_enter Try.func98, Try.ntmps98
    go_wp2_with fail
    refine (isNaN_int a _).mono ?_
    rintro e w1 ⟨rfl, rfl⟩
    go_wp2_with fail
    refine (isNaN_int b _).mono ?_
    rintro e w1 ⟨rfl, rfl⟩
    go_wp2_with fail
    rw [hp.out]
    go_ret
    exact ⟨rfl, rfl⟩
  · by_cases h2 : b < a
    · have hp := Kp.mk (show cmpI a b = 1 by unfold cmpI; rw [if_neg h1, if_pos h2])
      go_enter Try.func98, Try.ntmps98
      go_wp2_with fail
      refine (isNaN_int a _).mono ?_
      rintro e w1 ⟨rfl, rfl⟩
      go_wp2_with fail
      refine (isNaN_int b _).mono ?_
      rintro e w1 ⟨rfl, rfl⟩
      go_wp2_with fail
      rw [hp.out]
      go_ret
      exact ⟨rfl, rfl⟩
    · have hp := Kp.mk (show cmpI a b = 0 by unfold cmpI; rw [if_neg h1, if_neg h2])
      go_enter Try.func98, Try.ntmps98
      go_wp2_with fail
      refine (isNaN_int a _).mono ?_
      rintro e w1 ⟨rfl, rfl⟩
      go_wp2_with fail
      refine (isNaN_int b _).mono ?_
      rintro e w1 ⟨rfl, rfl⟩
      go_wp2_with fail
      rw [hp.out]
      go_ret
      exact ⟨rfl, rfl⟩
theorem isNaN_u8 (a : Int) (w : World) : Calls Try.prog 134 #[.int .u8 a] w fun e w' => e = .returned (.bool false) ∧ w = w' := by
  have h : (a != a) = false := by simp
  go_enter Try.func134, Try.ntmps134
  go_wp2_with fail
  go_ret
  exact ⟨rfl, rfl⟩
theorem cmp_u8 (a b : Int) (w : World) : Calls Try.prog 126 #[.int .u8 a, .int .u8 b] w fun e w' => e = .returned (.int .i64 (cmpI a b)) ∧ w = w' := by
  by_cases h1 : a < b
  · have hp := Kp.mk (show cmpI a b = -1 by unfold cmpI; rw [if_pos h1])
    go_enter Try.func126, Try.ntmps126
    go_wp2_with fail
    refine (isNaN_u8 a _).mono ?_
    rintro e w1 ⟨rfl, rfl⟩
    go_wp2_with fail
    refine (isNaN_u8 b _).mono ?_
    rintro e w1 ⟨rfl, rfl⟩
    go_wp2_with fail
    rw [hp.out]
    go_ret
    exact ⟨rfl, rfl⟩
  · by_cases h2 : b < a
    · have hp := Kp.mk (show cmpI a b = 1 by unfold cmpI; rw [if_neg h1, if_pos h2])
      go_enter Try.func126, Try.ntmps126
      go_wp2_with fail
      refine (isNaN_u8 a _).mono ?_
      rintro e w1 ⟨rfl, rfl⟩
      go_wp2_with fail
      refine (isNaN_u8 b _).mono ?_
      rintro e w1 ⟨rfl, rfl⟩
      go_wp2_with fail
      rw [hp.out]
      go_ret
      exact ⟨rfl, rfl⟩
    · have hp := Kp.mk (show cmpI a b = 0 by unfold cmpI; rw [if_neg h1, if_neg h2])
      go_enter Try.func126, Try.ntmps126
      go_wp2_with fail
      refine (isNaN_u8 a _).mono ?_
      rintro e w1 ⟨rfl, rfl⟩
      go_wp2_with fail
      refine (isNaN_u8 b _).mono ?_
      rintro e w1 ⟨rfl, rfl⟩
      go_wp2_with fail
      rw [hp.out]
      go_ret
      exact ⟨rfl, rfl⟩
theorem read3 (r : RuleV) (s : Value) (w : World) : Calls Try.prog 112 #[.agg #[.int .i64 r.k, .int .i64 r.pr, .int .i64 r.to, .int .i64 r.po, .int .i64 r.x.v, .int .i64 r.x.m, .int .u8 r.x.b0, .int .u8 r.x.b1, .int .u8 r.x.b2, .int .u8 r.x.i0, .int .u8 r.x.i1, .int .u8 r.x.i2, s]] w fun e w' => e = .returned (.int .i64 r.k) ∧ Below w.heap.size w w' := by
  have hv := Vb.new 31 w [.int .i64 r.k, .int .i64 r.pr, .int .i64 r.to, .int .i64 r.po, .int .i64 r.x.v, .int .i64 r.x.m, .int .u8 r.x.b0, .int .u8 r.x.b1, .int .u8 r.x.b2, .int .u8 r.x.i0, .int .u8 r.x.i1, .int .u8 r.x.i2, s]
  obtain ⟨d0, d1, d2, d3, d4, d5, d6, d7, d8, d9, d10, d11, d12⟩ := hv.c13
  go_enter Try.func112, Try.ntmps112
  go_wp2_with fail
  go_ret
  exact ⟨rfl, below_alloc w _⟩
theorem read4 (r : RuleV) (s : Value) (w : World) : Calls Try.prog 114 #[.agg #[.int .i64 r.k, .int .i64 r.pr, .int .i64 r.to, .int .i64 r.po, .int .i64 r.x.v, .int .i64 r.x.m, .int .u8 r.x.b0, .int .u8 r.x.b1, .int .u8 r.x.b2, .int .u8 r.x.i0, .int .u8 r.x.i1, .int .u8 r.x.i2, s]] w fun e w' => e = .returned (.int .i64 r.to) ∧ Below w.heap.size w w' := by
  have hv := Vb.new 31 w [.int .i64 r.k, .int .i64 r.pr, .int .i64 r.to, .int .i64 r.po, .int .i64 r.x.v, .int .i64 r.x.m, .int .u8 r.x.b0, .int .u8 r.x.b1, .int .u8 r.x.b2, .int .u8 r.x.i0, .int .u8 r.x.i1, .int .u8 r.x.i2, s]
  obtain ⟨d0, d1, d2, d3, d4, d5, d6, d7, d8, d9, d10, d11, d12⟩ := hv.c13
  go_enter Try.func114, Try.ntmps114
  go_wp2_with fail
  go_ret
  exact ⟨rfl, below_alloc w _⟩
theorem read5 (r : RuleV) (s : Value) (w : World) : Calls Try.prog 115 #[.agg #[.int .i64 r.k, .int .i64 r.pr, .int .i64 r.to, .int .i64 r.po, .int .i64 r.x.v, .int .i64 r.x.m, .int .u8 r.x.b0, .int .u8 r.x.b1, .int .u8 r.x.b2, .int .u8 r.x.i0, .int .u8 r.x.i1, .int .u8 r.x.i2, s]] w fun e w' => e = .returned (.int .i64 r.pr) ∧ Below w.heap.size w w' := by
  have hv := Vb.new 31 w [.int .i64 r.k, .int .i64 r.pr, .int .i64 r.to, .int .i64 r.po, .int .i64 r.x.v, .int .i64 r.x.m, .int .u8 r.x.b0, .int .u8 r.x.b1, .int .u8 r.x.b2, .int .u8 r.x.i0, .int .u8 r.x.i1, .int .u8 r.x.i2, s]
  obtain ⟨d0, d1, d2, d3, d4, d5, d6, d7, d8, d9, d10, d11, d12⟩ := hv.c13
  go_enter Try.func115, Try.ntmps115
  go_wp2_with fail
  go_ret
  exact ⟨rfl, below_alloc w _⟩
theorem read6 (r : RuleV) (s : Value) (w : World) : Calls Try.prog 116 #[.agg #[.int .i64 r.k, .int .i64 r.pr, .int .i64 r.to, .int .i64 r.po, .int .i64 r.x.v, .int .i64 r.x.m, .int .u8 r.x.b0, .int .u8 r.x.b1, .int .u8 r.x.b2, .int .u8 r.x.i0, .int .u8 r.x.i1, .int .u8 r.x.i2, s]] w fun e w' => e = .returned (.int .i64 r.x.v) ∧ Below w.heap.size w w' := by
  have hv := Vb.new 31 w [.int .i64 r.k, .int .i64 r.pr, .int .i64 r.to, .int .i64 r.po, .int .i64 r.x.v, .int .i64 r.x.m, .int .u8 r.x.b0, .int .u8 r.x.b1, .int .u8 r.x.b2, .int .u8 r.x.i0, .int .u8 r.x.i1, .int .u8 r.x.i2, s]
  obtain ⟨d0, d1, d2, d3, d4, d5, d6, d7, d8, d9, d10, d11, d12⟩ := hv.c13
  go_enter Try.func116, Try.ntmps116
  go_wp2_with fail
  go_ret
  exact ⟨rfl, below_alloc w _⟩
theorem read7 (r : RuleV) (s : Value) (w : World) : Calls Try.prog 117 #[.agg #[.int .i64 r.k, .int .i64 r.pr, .int .i64 r.to, .int .i64 r.po, .int .i64 r.x.v, .int .i64 r.x.m, .int .u8 r.x.b0, .int .u8 r.x.b1, .int .u8 r.x.b2, .int .u8 r.x.i0, .int .u8 r.x.i1, .int .u8 r.x.i2, s]] w fun e w' => e = .returned (.int .i64 r.x.m) ∧ Below w.heap.size w w' := by
  have hv := Vb.new 31 w [.int .i64 r.k, .int .i64 r.pr, .int .i64 r.to, .int .i64 r.po, .int .i64 r.x.v, .int .i64 r.x.m, .int .u8 r.x.b0, .int .u8 r.x.b1, .int .u8 r.x.b2, .int .u8 r.x.i0, .int .u8 r.x.i1, .int .u8 r.x.i2, s]
  obtain ⟨d0, d1, d2, d3, d4, d5, d6, d7, d8, d9, d10, d11, d12⟩ := hv.c13
  go_enter Try.func117, Try.ntmps117
  go_wp2_with fail
  go_ret
  exact ⟨rfl, below_alloc w _⟩
theorem read8 (r : RuleV) (s : Value) (w : World) : Calls Try.prog 118 #[.agg #[.int .i64 r.k, .int .i64 r.pr, .int .i64 r.to, .int .i64 r.po, .int .i64 r.x.v, .int .i64 r.x.m, .int .u8 r.x.b0, .int .u8 r.x.b1, .int .u8 r.x.b2, .int .u8 r.x.i0, .int .u8 r.x.i1, .int .u8 r.x.i2, s]] w fun e w' => e = .returned (.agg #[.int .u8 r.x.b0, .int .u8 r.x.b1, .int .u8 r.x.b2]) ∧ Below w.heap.size w w' := by
  have hv := Vb.new 31 w [.int .i64 r.k, .int .i64 r.pr, .int .i64 r.to, .int .i64 r.po, .int .i64 r.x.v, .int .i64 r.x.m, .int .u8 r.x.b0, .int .u8 r.x.b1, .int .u8 r.x.b2, .int .u8 r.x.i0, .int .u8 r.x.i1, .int .u8 r.x.i2, s]
  obtain ⟨d0, d1, d2, d3, d4, d5, d6, d7, d8, d9, d10, d11, d12⟩ := hv.c13
  go_enter Try.func118, Try.ntmps118
  go_wp2_with fail
  have hr := Vb.new 26 (w.alloc (.cells #[.int .i64 r.k, .int .i64 r.pr, .int .i64 r.to, .int .i64 r.po, .int .i64 r.x.v, .int .i64 r.x.m, .int .u8 r.x.b0, .int .u8 r.x.b1, .int .u8 r.x.b2, .int .u8 r.x.i0, .int .u8 r.x.i1, .int .u8 r.x.i2, s] 31)) [.int .u8 r.x.b0, .int .u8 r.x.b1, .int .u8 r.x.b2]
  rw [alloc_size] at hr
  exact bodyPost_ret (results_one Try.results118 _ rfl hr agg_header) rfl ⟨rfl, below_two w _ _⟩
theorem read9 (r : RuleV) (s : Value) (w : World) : Calls Try.prog 119 #[.agg #[.int .i64 r.k, .int .i64 r.pr, .int .i64 r.to, .int .i64 r.po, .int .i64 r.x.v, .int .i64 r.x.m, .int .u8 r.x.b0, .int .u8 r.x.b1, .int .u8 r.x.b2, .int .u8 r.x.i0, .int .u8 r.x.i1, .int .u8 r.x.i2, s]] w fun e w' => e = .returned (.agg #[.int .u8 r.x.i0, .int .u8 r.x.i1, .int .u8 r.x.i2]) ∧ Below w.heap.size w w' := by
  have hv := Vb.new 31 w [.int .i64 r.k, .int .i64 r.pr, .int .i64 r.to, .int .i64 r.po, .int .i64 r.x.v, .int .i64 r.x.m, .int .u8 r.x.b0, .int .u8 r.x.b1, .int .u8 r.x.b2, .int .u8 r.x.i0, .int .u8 r.x.i1, .int .u8 r.x.i2, s]
  obtain ⟨d0, d1, d2, d3, d4, d5, d6, d7, d8, d9, d10, d11, d12⟩ := hv.c13
  go_enter Try.func119, Try.ntmps119
  go_wp2_with fail
  have hr := Vb.new 26 (w.alloc (.cells #[.int .i64 r.k, .int .i64 r.pr, .int .i64 r.to, .int .i64 r.po, .int .i64 r.x.v, .int .i64 r.x.m, .int .u8 r.x.b0, .int .u8 r.x.b1, .int .u8 r.x.b2, .int .u8 r.x.i0, .int .u8 r.x.i1, .int .u8 r.x.i2, s] 31)) [.int .u8 r.x.i0, .int .u8 r.x.i1, .int .u8 r.x.i2]
  rw [alloc_size] at hr
  exact bodyPost_ret (results_one Try.results119 _ rfl hr agg_header) rfl ⟨rfl, below_two w _ _⟩
theorem ne0_t {n : Int} (h : ¬ n = 0) : (n != 0) = true := by simpa using h
theorem ne0_f {n : Int} (h : n = 0) : (n != 0) = false := by simp [h]
theorem or_any (zs : List Int) (hl : zs.length ≤ 100) {w : World} {g : Nat} (h : Vb 3 w g (zs.map (Value.int .i64))) : Calls Try.prog 113 #[.slice (some ⟨g, 0, none⟩) zs.length zs.length] w fun e w' => e = .returned (.int .i64 (orL zs)) ∧ w = w' := by
  generalize hn : zs.length = n at *
  go_enter Try.func113, Try.ntmps113
  go_wp2_with fail
  go_loopw [8] (fun i wr => ∃ k : Nat, k ≤ n ∧ i = .int .i64 k ∧ Kp (orL (zs.drop k) = orL zs) ∧ wr = w) (fun i _ => n - (intOf i).toNat)
  case atStart => exact ⟨0, by omega, rfl, Kp.mk rfl, rfl⟩
  case round =>
    obtain ⟨k, hk, rfl, ha, rfl⟩ := hrel
    by_cases hlt : k < n
    · obtain ⟨x, hx⟩ : ∃ x, zs[k]? = some x := ⟨_, List.getElem?_eq_getElem (by omega)⟩
      have d0 := h.cell k (by rw [List.getElem?_map, hx]; rfl)
      have j1 : (k : Int) < n := by omega
      have hd : zs.drop k = x :: zs.drop (k + 1) := by
        have hkl := (List.getElem?_eq_some_iff.1 hx).1
        rw [List.drop_eq_getElem_cons hkl]
        congr 1
        exact (List.getElem?_eq_some_iff.1 hx).2
      by_cases h0 : x = 0
      · have hp := Kp.mk (show orL (zs.drop (k + 1)) = orL zs by rw [← ha.out, hd]; show _ = (if x = 0 then _ else _); rw [if_pos h0])
        have c0 := ne0_f h0
        clear hd hx h0
        go_wp2_with fail
        go_roundw
        case rel => exact ⟨k + 1, by omega, by go_num, hp, by trivial⟩
        case measure => simp [intOf]; omega
      · have hp := Kp.mk (show orL zs = x by rw [← ha.out, hd]; show (if x = 0 then _ else _) = _; rw [if_neg h0])
        have c0 := ne0_t h0
        clear hd hx h0
        go_wp2_with fail
        rw [hp.out]
        go_ret
        exact ⟨rfl, rfl⟩
    · obtain rfl : k = n := by omega
      have hp := Kp.mk (show orL zs = 0 by rw [← ha.out, List.drop_eq_nil_of_le (by omega)]; rfl)
      go_wp2_with fail
      rw [hp.out]
      go_ret
      exact ⟨rfl, rfl⟩
set_option maxRecDepth 100000 in
set_option maxHeartbeats 4000000 in
theorem lex_any {a b c x y z : Int} {w : World} {g1 g2 : Nat} (h1 : Vb 26 w g1 [.int .u8 a, .int .u8 b, .int .u8 c]) (h2 : Vb 26 w g2 [.int .u8 x, .int .u8 y, .int .u8 z]) : Calls Try.prog 111 #[.slice (some ⟨g1, 0, none⟩) 3 3, .slice (some ⟨g2, 0, none⟩) 3 3] w fun e w' => e = .returned (.int .i64 (lex3 a b c x y z)) ∧ w = w' := by
  have hE := Kp.mk (show lex3 a b c x y z = orL [cmpI a x, cmpI b y, cmpI c z] from rfl)
  have C0 := Kp.mk (cmp_u8 a x)
  have C1 := Kp.mk (cmp_u8 b y)
  have C2 := Kp.mk (cmp_u8 c z)
  obtain ⟨d0, d1, d2⟩ := h1.c3
  obtain ⟨f0, f1, f2⟩ := h2.c3
  clear h1 h2
  generalize lex3 a b c x y z = L at *
  generalize cmpI a x = p at *
  generalize cmpI b y = q at *
  generalize cmpI c z = r at *
  by_cases h0 : p = 0
  rotate_left
  · have hp := Kp.mk (show L = p by rw [hE.out]; simp [orL, h0])
    have c0 := ne0_t h0
    clear h0
    go_enter Try.func111, Try.ntmps111
    go_wp2_with fail
    refine wp_loop_rounds (3 + 1) ?_
    rw [rounds_succ]
    go_wp2_with fail
    refine (C0.out _).mono ?_
    rintro e w1 ⟨rfl, rfl⟩
    go_wp2_with fail
    rw [hp.out]
    go_ret
    exact ⟨rfl, rfl⟩
  by_cases h1 : q = 0
  rotate_left
  · have hp := Kp.mk (show L = q by rw [hE.out]; simp [orL, h0, h1])
    have c0 := ne0_f h0
    have c1 := ne0_t h1
    clear h0 h1
    go_enter Try.func111, Try.ntmps111
    go_wp2_with fail
    refine wp_loop_rounds (3 + 1) ?_
    rw [rounds_succ]
    go_wp2_with fail
    refine (C0.out _).mono ?_
    rintro e w1 ⟨rfl, rfl⟩
    go_wp2_with fail
    rw [rounds_succ]
    go_wp2_with fail
    refine (C1.out _).mono ?_
    rintro e w1 ⟨rfl, rfl⟩
    go_wp2_with fail
    rw [hp.out]
    go_ret
    exact ⟨rfl, rfl⟩
  by_cases h2 : r = 0
  rotate_left
  · have hp := Kp.mk (show L = r by rw [hE.out]; simp [orL, h0, h1, h2])
    have c0 := ne0_f h0
    have c1 := ne0_f h1
    have c2 := ne0_t h2
    clear h0 h1 h2
    go_enter Try.func111, Try.ntmps111
    go_wp2_with fail
    refine wp_loop_rounds (3 + 1) ?_
    rw [rounds_succ]
    go_wp2_with fail
    refine (C0.out _).mono ?_
    rintro e w1 ⟨rfl, rfl⟩
    go_wp2_with fail
    rw [rounds_succ]
    go_wp2_with fail
    refine (C1.out _).mono ?_
    rintro e w1 ⟨rfl, rfl⟩
    go_wp2_with fail
    rw [rounds_succ]
    go_wp2_with fail
    refine (C2.out _).mono ?_
    rintro e w1 ⟨rfl, rfl⟩
    go_wp2_with fail
    rw [hp.out]
    go_ret
    exact ⟨rfl, rfl⟩
  have hp := Kp.mk (show L = 0 by rw [hE.out]; simp [orL, h0, h1, h2])
  have c0 := ne0_f h0
  have c1 := ne0_f h1
  have c2 := ne0_f h2
  clear h0 h1 h2
  go_enter Try.func111, Try.ntmps111
  go_wp2_with fail
  refine wp_loop_rounds (3 + 1) ?_
  rw [rounds_succ]
  go_wp2_with fail
  refine (C0.out _).mono ?_
  rintro e w1 ⟨rfl, rfl⟩
  go_wp2_with fail
  rw [rounds_succ]
  go_wp2_with fail
  refine (C1.out _).mono ?_
  rintro e w1 ⟨rfl, rfl⟩
  go_wp2_with fail
  rw [rounds_succ]
  go_wp2_with fail
  refine (C2.out _).mono ?_
  rintro e w1 ⟨rfl, rfl⟩
  go_wp2_with fail
  rw [rounds_succ]
  go_wp2_with fail
  rw [hp.out]
  go_ret
  exact ⟨rfl, rfl⟩
theorem lex_anyB {a b c x y z : Int} {w : World} {g1 g2 : Nat} (h1 : Vb 26 w g1 [.int .u8 a, .int .u8 b, .int .u8 c]) (h2 : Vb 26 w g2 [.int .u8 x, .int .u8 y, .int .u8 z]) : Calls Try.prog 111 #[.slice (some ⟨g1, 0, none⟩) 3 3, .slice (some ⟨g2, 0, none⟩) 3 3] w fun e w' => e = .returned (.int .i64 (lex3 a b c x y z)) ∧ Below w.heap.size w w' :=
  (lex_any h1 h2).mono fun e w' ⟨h1, h2⟩ => ⟨h1, h2 ▸ Below.refl _ _⟩
theorem cmp_intB (a b : Int) (w : World) : Calls Try.prog 98 #[.int .i64 a, .int .i64 b] w fun e w' => e = .returned (.int .i64 (cmpI a b)) ∧ Below w.heap.size w w' :=
  (cmp_int a b w).mono fun e w' ⟨h1, h2⟩ => ⟨h1, h2 ▸ Below.refl _ _⟩
set_option maxRecDepth 100000 in
set_option maxHeartbeats 4000000 in
theorem numC3 {a b : RuleV} {sa sb : Value} {w : World} {ga gb : Nat} (hx : Vb 31 w ga [.int .i64 a.k, .int .i64 a.pr, .int .i64 a.to, .int .i64 a.po, .int .i64 a.x.v, .int .i64 a.x.m, .int .u8 a.x.b0, .int .u8 a.x.b1, .int .u8 a.x.b2, .int .u8 a.x.i0, .int .u8 a.x.i1, .int .u8 a.x.i2, sa]) (hy : Vb 31 w gb [.int .i64 b.k, .int .i64 b.pr, .int .i64 b.to, .int .i64 b.po, .int .i64 b.x.v, .int .i64 b.x.m, .int .u8 b.x.b0, .int .u8 b.x.b1, .int .u8 b.x.b2, .int .u8 b.x.i0, .int .u8 b.x.i1, .int .u8 b.x.i2, sb]) : Calls Try.prog 109 #[.func (.func 112) #[] #[], .pointer (some ⟨ga, 0, none⟩), .pointer (some ⟨gb, 0, none⟩)] w fun e w' => e = .returned (.int .i64 (cmpI a.k b.k)) ∧ Below w.heap.size w w' := by
  have hB : Below w.heap.size w w.drew := (Below.refl _ _).drew
  go_enter Try.func109, Try.ntmps109
  go_upto_region 1 with fail
  have hS0 : (fun W => Vb 31 W ga [.int .i64 a.k, .int .i64 a.pr, .int .i64 a.to, .int .i64 a.po, .int .i64 a.x.v, .int .i64 a.x.m, .int .u8 a.x.b0, .int .u8 a.x.b1, .int .u8 a.x.b2, .int .u8 a.x.i0, .int .u8 a.x.i1, .int .u8 a.x.i2, sa] ∧ Vb 31 W gb [.int .i64 b.k, .int .i64 b.pr, .int .i64 b.to, .int .i64 b.po, .int .i64 b.x.v, .int .i64 b.x.m, .int .u8 b.x.b0, .int .u8 b.x.b1, .int .u8 b.x.b2, .int .u8 b.x.i0, .int .u8 b.x.i1, .int .u8 b.x.i2, sb]) w.drew := ⟨hx, hy⟩
  refine wp_region_held_drew (S := fun W => Vb 31 W ga [.int .i64 a.k, .int .i64 a.pr, .int .i64 a.to, .int .i64 a.po, .int .i64 a.x.v, .int .i64 a.x.m, .int .u8 a.x.b0, .int .u8 a.x.b1, .int .u8 a.x.b2, .int .u8 a.x.i0, .int .u8 a.x.i1, .int .u8 a.x.i2, sa] ∧ Vb 31 W gb [.int .i64 b.k, .int .i64 b.pr, .int .i64 b.to, .int .i64 b.po, .int .i64 b.x.v, .int .i64 b.x.m, .int .u8 b.x.b0, .int .u8 b.x.b1, .int .u8 b.x.b2, .int .u8 b.x.i0, .int .u8 b.x.i1, .int .u8 b.x.i2, sb]) (by kernel_rfl) hS0 (fun _ => ?_)
  clear hx hy
  generalize w.drew = u0 at *
  refine takeD (i := 0) (v := .func (.func 112) #[] #[]) (some 5) rfl rfl (by kernel_rfl) (by kernel_rfl) (by kernel_rfl) (fun _ _ _ h => h) (Or.inl ⟨by rfl, ?_⟩) hS0 ?_
  · rintro w' _
    go_simp
  try simp only [Act.put, List.setIfInBounds_toArray, List.set_cons_zero, List.set_cons_succ]
  refine takeD (i := 1) (v := .agg #[.int .i64 a.k, .int .i64 a.pr, .int .i64 a.to, .int .i64 a.po, .int .i64 a.x.v, .int .i64 a.x.m, .int .u8 a.x.b0, .int .u8 a.x.b1, .int .u8 a.x.b2, .int .u8 a.x.i0, .int .u8 a.x.i1, .int .u8 a.x.i2, sa]) (some 6) rfl rfl (by kernel_rfl) (by kernel_rfl) (by kernel_rfl) (fun _ _ _ h => h) (Or.inl ⟨by rfl, ?_⟩) hS0 ?_
  · rintro w' ⟨s0, s1⟩
    have d0 := s0.cell 0 rfl
    have d1 := s0.cell 1 rfl
    have d2 := s0.cell 2 rfl
    have d3 := s0.cell 3 rfl
    have d4 := s0.cell 4 rfl
    have d5 := s0.cell 5 rfl
    have d6 := s0.cell 6 rfl
    have d7 := s0.cell 7 rfl
    have d8 := s0.cell 8 rfl
    have d9 := s0.cell 9 rfl
    have d10 := s0.cell 10 rfl
    have d11 := s0.cell 11 rfl
    have d12 := s0.cell 12 rfl
    go_simp
  try simp only [Act.put, List.setIfInBounds_toArray, List.set_cons_zero, List.set_cons_succ]
  refine takeD (i := 3) (v := .func (.func 112) #[] #[]) (some 8) rfl rfl (by kernel_rfl) (by kernel_rfl) (by kernel_rfl) (fun _ _ _ h => h) (Or.inl ⟨by rfl, ?_⟩) hS0 ?_
  · rintro w' _
    go_simp
  try simp only [Act.put, List.setIfInBounds_toArray, List.set_cons_zero, List.set_cons_succ]
  refine takeD (i := 4) (v := .agg #[.int .i64 b.k, .int .i64 b.pr, .int .i64 b.to, .int .i64 b.po, .int .i64 b.x.v, .int .i64 b.x.m, .int .u8 b.x.b0, .int .u8 b.x.b1, .int .u8 b.x.b2, .int .u8 b.x.i0, .int .u8 b.x.i1, .int .u8 b.x.i2, sb]) (some 9) rfl rfl (by kernel_rfl) (by kernel_rfl) (by kernel_rfl) (fun _ _ _ h => h) (Or.inl ⟨by rfl, ?_⟩) hS0 ?_
  · rintro w' ⟨s0, s1⟩
    have d0 := s1.cell 0 rfl
    have d1 := s1.cell 1 rfl
    have d2 := s1.cell 2 rfl
    have d3 := s1.cell 3 rfl
    have d4 := s1.cell 4 rfl
    have d5 := s1.cell 5 rfl
    have d6 := s1.cell 6 rfl
    have d7 := s1.cell 7 rfl
    have d8 := s1.cell 8 rfl
    have d9 := s1.cell 9 rfl
    have d10 := s1.cell 10 rfl
    have d11 := s1.cell 11 rfl
    have d12 := s1.cell 12 rfl
    go_simp
  try simp only [Act.put, List.setIfInBounds_toArray, List.set_cons_zero, List.set_cons_succ]
  refine wpAnyH_ready (rs := [2]) (by kernel_rfl) (by simp) ?_
  refine AllReadyH.cons rfl (fun K hK => ?_) AllReadyH.nil
  try rw [if_pos (by rfl)]
  go_simp
  go_at_call 112
  refine (read3 a sa _).mono ?_
  rintro e v1 ⟨rfl, hb1⟩
  have hB1 := hB.trans (hb1.mono hB.size)
  refine hK.out _ _ (⟨hS0.1.below hb1 hS0.1.lt, hS0.2.below hb1 hS0.2.lt⟩) (fun hS1 => ?_)
  clear hK K
  try simp only [Act.put, List.setIfInBounds_toArray, List.set_cons_zero, List.set_cons_succ]
  refine wpAnyH_ready (rs := [5]) (by kernel_rfl) (by simp) ?_
  refine AllReadyH.cons rfl (fun K hK => ?_) AllReadyH.nil
  try rw [if_pos (by rfl)]
  go_simp
  go_at_call 112
  refine (read3 b sb _).mono ?_
  rintro e v2 ⟨rfl, hb2⟩
  have hB2 := hB1.trans (hb2.mono hB1.size)
  refine hK.out _ _ (⟨hS1.1.below hb2 hS1.1.lt, hS1.2.below hb2 hS1.2.lt⟩) (fun hS2 => ?_)
  clear hK K
  try simp only [Act.put, List.setIfInBounds_toArray, List.set_cons_zero, List.set_cons_succ]
  refine wpAnyH_ready (rs := [6]) (by kernel_rfl) (by simp) ?_
  refine AllReadyH.cons rfl (fun K hK => ?_) AllReadyH.nil
  try rw [if_pos (by rfl)]
  go_simp
  go_at_call 98
  refine (cmp_intB a.k b.k _).mono ?_
  rintro e v3 ⟨rfl, hb3⟩
  have hB3 := hB2.trans (hb3.mono hB2.size)
  refine hK.out _ _ (⟨hS2.1.below hb3 hS2.1.lt, hS2.2.below hb3 hS2.2.lt⟩) (fun hS3 => ?_)
  clear hK K
  try simp only [Act.put, List.setIfInBounds_toArray, List.set_cons_zero, List.set_cons_succ]
  refine takeD (i := 7) (v := .int .i64 (cmpI a.k b.k)) (some 4) rfl rfl (by kernel_rfl) (by kernel_rfl) (by kernel_rfl) (fun _ _ _ h => h) (Or.inl ⟨by rfl, ?_⟩) hS3 ?_
  · rintro w' _
    go_simp
  try simp only [Act.put, List.setIfInBounds_toArray, List.set_cons_zero, List.set_cons_succ]
  refine wpAnyH_done (by kernel_rfl) ?_ _
  go_wp2_with fail
  go_ret
  exact ⟨rfl, hB3⟩
set_option maxRecDepth 100000 in
set_option maxHeartbeats 4000000 in
theorem numC4 {a b : RuleV} {sa sb : Value} {w : World} {ga gb : Nat} (hx : Vb 31 w ga [.int .i64 a.k, .int .i64 a.pr, .int .i64 a.to, .int .i64 a.po, .int .i64 a.x.v, .int .i64 a.x.m, .int .u8 a.x.b0, .int .u8 a.x.b1, .int .u8 a.x.b2, .int .u8 a.x.i0, .int .u8 a.x.i1, .int .u8 a.x.i2, sa]) (hy : Vb 31 w gb [.int .i64 b.k, .int .i64 b.pr, .int .i64 b.to, .int .i64 b.po, .int .i64 b.x.v, .int .i64 b.x.m, .int .u8 b.x.b0, .int .u8 b.x.b1, .int .u8 b.x.b2, .int .u8 b.x.i0, .int .u8 b.x.i1, .int .u8 b.x.i2, sb]) : Calls Try.prog 109 #[.func (.func 114) #[] #[], .pointer (some ⟨ga, 0, none⟩), .pointer (some ⟨gb, 0, none⟩)] w fun e w' => e = .returned (.int .i64 (cmpI a.to b.to)) ∧ Below w.heap.size w w' := by
  have hB : Below w.heap.size w w.drew := (Below.refl _ _).drew
  go_enter Try.func109, Try.ntmps109
  go_upto_region 1 with fail
  have hS0 : (fun W => Vb 31 W ga [.int .i64 a.k, .int .i64 a.pr, .int .i64 a.to, .int .i64 a.po, .int .i64 a.x.v, .int .i64 a.x.m, .int .u8 a.x.b0, .int .u8 a.x.b1, .int .u8 a.x.b2, .int .u8 a.x.i0, .int .u8 a.x.i1, .int .u8 a.x.i2, sa] ∧ Vb 31 W gb [.int .i64 b.k, .int .i64 b.pr, .int .i64 b.to, .int .i64 b.po, .int .i64 b.x.v, .int .i64 b.x.m, .int .u8 b.x.b0, .int .u8 b.x.b1, .int .u8 b.x.b2, .int .u8 b.x.i0, .int .u8 b.x.i1, .int .u8 b.x.i2, sb]) w.drew := ⟨hx, hy⟩
  refine wp_region_held_drew (S := fun W => Vb 31 W ga [.int .i64 a.k, .int .i64 a.pr, .int .i64 a.to, .int .i64 a.po, .int .i64 a.x.v, .int .i64 a.x.m, .int .u8 a.x.b0, .int .u8 a.x.b1, .int .u8 a.x.b2, .int .u8 a.x.i0, .int .u8 a.x.i1, .int .u8 a.x.i2, sa] ∧ Vb 31 W gb [.int .i64 b.k, .int .i64 b.pr, .int .i64 b.to, .int .i64 b.po, .int .i64 b.x.v, .int .i64 b.x.m, .int .u8 b.x.b0, .int .u8 b.x.b1, .int .u8 b.x.b2, .int .u8 b.x.i0, .int .u8 b.x.i1, .int .u8 b.x.i2, sb]) (by kernel_rfl) hS0 (fun _ => ?_)
  clear hx hy
  generalize w.drew = u0 at *
  refine takeD (i := 0) (v := .func (.func 114) #[] #[]) (some 5) rfl rfl (by kernel_rfl) (by kernel_rfl) (by kernel_rfl) (fun _ _ _ h => h) (Or.inl ⟨by rfl, ?_⟩) hS0 ?_
  · rintro w' _
    go_simp
  try simp only [Act.put, List.setIfInBounds_toArray, List.set_cons_zero, List.set_cons_succ]
  refine takeD (i := 1) (v := .agg #[.int .i64 a.k, .int .i64 a.pr, .int .i64 a.to, .int .i64 a.po, .int .i64 a.x.v, .int .i64 a.x.m, .int .u8 a.x.b0, .int .u8 a.x.b1, .int .u8 a.x.b2, .int .u8 a.x.i0, .int .u8 a.x.i1, .int .u8 a.x.i2, sa]) (some 6) rfl rfl (by kernel_rfl) (by kernel_rfl) (by kernel_rfl) (fun _ _ _ h => h) (Or.inl ⟨by rfl, ?_⟩) hS0 ?_
  · rintro w' ⟨s0, s1⟩
    have d0 := s0.cell 0 rfl
    have d1 := s0.cell 1 rfl
    have d2 := s0.cell 2 rfl
    have d3 := s0.cell 3 rfl
    have d4 := s0.cell 4 rfl
    have d5 := s0.cell 5 rfl
    have d6 := s0.cell 6 rfl
    have d7 := s0.cell 7 rfl
    have d8 := s0.cell 8 rfl
    have d9 := s0.cell 9 rfl
    have d10 := s0.cell 10 rfl
    have d11 := s0.cell 11 rfl
    have d12 := s0.cell 12 rfl
    go_simp
  try simp only [Act.put, List.setIfInBounds_toArray, List.set_cons_zero, List.set_cons_succ]
  refine takeD (i := 3) (v := .func (.func 114) #[] #[]) (some 8) rfl rfl (by kernel_rfl) (by kernel_rfl) (by kernel_rfl) (fun _ _ _ h => h) (Or.inl ⟨by rfl, ?_⟩) hS0 ?_
  · rintro w' _
    go_simp
  try simp only [Act.put, List.setIfInBounds_toArray, List.set_cons_zero, List.set_cons_succ]
  refine takeD (i := 4) (v := .agg #[.int .i64 b.k, .int .i64 b.pr, .int .i64 b.to, .int .i64 b.po, .int .i64 b.x.v, .int .i64 b.x.m, .int .u8 b.x.b0, .int .u8 b.x.b1, .int .u8 b.x.b2, .int .u8 b.x.i0, .int .u8 b.x.i1, .int .u8 b.x.i2, sb]) (some 9) rfl rfl (by kernel_rfl) (by kernel_rfl) (by kernel_rfl) (fun _ _ _ h => h) (Or.inl ⟨by rfl, ?_⟩) hS0 ?_
  · rintro w' ⟨s0, s1⟩
    have d0 := s1.cell 0 rfl
    have d1 := s1.cell 1 rfl
    have d2 := s1.cell 2 rfl
    have d3 := s1.cell 3 rfl
    have d4 := s1.cell 4 rfl
    have d5 := s1.cell 5 rfl
    have d6 := s1.cell 6 rfl
    have d7 := s1.cell 7 rfl
    have d8 := s1.cell 8 rfl
    have d9 := s1.cell 9 rfl
    have d10 := s1.cell 10 rfl
    have d11 := s1.cell 11 rfl
    have d12 := s1.cell 12 rfl
    go_simp
  try simp only [Act.put, List.setIfInBounds_toArray, List.set_cons_zero, List.set_cons_succ]
  refine wpAnyH_ready (rs := [2]) (by kernel_rfl) (by simp) ?_
  refine AllReadyH.cons rfl (fun K hK => ?_) AllReadyH.nil
  try rw [if_pos (by rfl)]
  go_simp
  go_at_call 114
  refine (read4 a sa _).mono ?_
  rintro e v1 ⟨rfl, hb1⟩
  have hB1 := hB.trans (hb1.mono hB.size)
  refine hK.out _ _ (⟨hS0.1.below hb1 hS0.1.lt, hS0.2.below hb1 hS0.2.lt⟩) (fun hS1 => ?_)
  clear hK K
  try simp only [Act.put, List.setIfInBounds_toArray, List.set_cons_zero, List.set_cons_succ]
  refine wpAnyH_ready (rs := [5]) (by kernel_rfl) (by simp) ?_
  refine AllReadyH.cons rfl (fun K hK => ?_) AllReadyH.nil
  try rw [if_pos (by rfl)]
  go_simp
  go_at_call 114
  refine (read4 b sb _).mono ?_
  rintro e v2 ⟨rfl, hb2⟩
  have hB2 := hB1.trans (hb2.mono hB1.size)
  refine hK.out _ _ (⟨hS1.1.below hb2 hS1.1.lt, hS1.2.below hb2 hS1.2.lt⟩) (fun hS2 => ?_)
  clear hK K
  try simp only [Act.put, List.setIfInBounds_toArray, List.set_cons_zero, List.set_cons_succ]
  refine wpAnyH_ready (rs := [6]) (by kernel_rfl) (by simp) ?_
  refine AllReadyH.cons rfl (fun K hK => ?_) AllReadyH.nil
  try rw [if_pos (by rfl)]
  go_simp
  go_at_call 98
  refine (cmp_intB a.to b.to _).mono ?_
  rintro e v3 ⟨rfl, hb3⟩
  have hB3 := hB2.trans (hb3.mono hB2.size)
  refine hK.out _ _ (⟨hS2.1.below hb3 hS2.1.lt, hS2.2.below hb3 hS2.2.lt⟩) (fun hS3 => ?_)
  clear hK K
  try simp only [Act.put, List.setIfInBounds_toArray, List.set_cons_zero, List.set_cons_succ]
  refine takeD (i := 7) (v := .int .i64 (cmpI a.to b.to)) (some 4) rfl rfl (by kernel_rfl) (by kernel_rfl) (by kernel_rfl) (fun _ _ _ h => h) (Or.inl ⟨by rfl, ?_⟩) hS3 ?_
  · rintro w' _
    go_simp
  try simp only [Act.put, List.setIfInBounds_toArray, List.set_cons_zero, List.set_cons_succ]
  refine wpAnyH_done (by kernel_rfl) ?_ _
  go_wp2_with fail
  go_ret
  exact ⟨rfl, hB3⟩
set_option maxRecDepth 100000 in
set_option maxHeartbeats 4000000 in
theorem numC5 {a b : RuleV} {sa sb : Value} {w : World} {ga gb : Nat} (hx : Vb 31 w ga [.int .i64 a.k, .int .i64 a.pr, .int .i64 a.to, .int .i64 a.po, .int .i64 a.x.v, .int .i64 a.x.m, .int .u8 a.x.b0, .int .u8 a.x.b1, .int .u8 a.x.b2, .int .u8 a.x.i0, .int .u8 a.x.i1, .int .u8 a.x.i2, sa]) (hy : Vb 31 w gb [.int .i64 b.k, .int .i64 b.pr, .int .i64 b.to, .int .i64 b.po, .int .i64 b.x.v, .int .i64 b.x.m, .int .u8 b.x.b0, .int .u8 b.x.b1, .int .u8 b.x.b2, .int .u8 b.x.i0, .int .u8 b.x.i1, .int .u8 b.x.i2, sb]) : Calls Try.prog 109 #[.func (.func 115) #[] #[], .pointer (some ⟨ga, 0, none⟩), .pointer (some ⟨gb, 0, none⟩)] w fun e w' => e = .returned (.int .i64 (cmpI a.pr b.pr)) ∧ Below w.heap.size w w' := by
  have hB : Below w.heap.size w w.drew := (Below.refl _ _).drew
  go_enter Try.func109, Try.ntmps109
  go_upto_region 1 with fail
  have hS0 : (fun W => Vb 31 W ga [.int .i64 a.k, .int .i64 a.pr, .int .i64 a.to, .int .i64 a.po, .int .i64 a.x.v, .int .i64 a.x.m, .int .u8 a.x.b0, .int .u8 a.x.b1, .int .u8 a.x.b2, .int .u8 a.x.i0, .int .u8 a.x.i1, .int .u8 a.x.i2, sa] ∧ Vb 31 W gb [.int .i64 b.k, .int .i64 b.pr, .int .i64 b.to, .int .i64 b.po, .int .i64 b.x.v, .int .i64 b.x.m, .int .u8 b.x.b0, .int .u8 b.x.b1, .int .u8 b.x.b2, .int .u8 b.x.i0, .int .u8 b.x.i1, .int .u8 b.x.i2, sb]) w.drew := ⟨hx, hy⟩
  refine wp_region_held_drew (S := fun W => Vb 31 W ga [.int .i64 a.k, .int .i64 a.pr, .int .i64 a.to, .int .i64 a.po, .int .i64 a.x.v, .int .i64 a.x.m, .int .u8 a.x.b0, .int .u8 a.x.b1, .int .u8 a.x.b2, .int .u8 a.x.i0, .int .u8 a.x.i1, .int .u8 a.x.i2, sa] ∧ Vb 31 W gb [.int .i64 b.k, .int .i64 b.pr, .int .i64 b.to, .int .i64 b.po, .int .i64 b.x.v, .int .i64 b.x.m, .int .u8 b.x.b0, .int .u8 b.x.b1, .int .u8 b.x.b2, .int .u8 b.x.i0, .int .u8 b.x.i1, .int .u8 b.x.i2, sb]) (by kernel_rfl) hS0 (fun _ => ?_)
  clear hx hy
  generalize w.drew = u0 at *
  refine takeD (i := 0) (v := .func (.func 115) #[] #[]) (some 5) rfl rfl (by kernel_rfl) (by kernel_rfl) (by kernel_rfl) (fun _ _ _ h => h) (Or.inl ⟨by rfl, ?_⟩) hS0 ?_
  · rintro w' _
    go_simp
  try simp only [Act.put, List.setIfInBounds_toArray, List.set_cons_zero, List.set_cons_succ]
  refine takeD (i := 1) (v := .agg #[.int .i64 a.k, .int .i64 a.pr, .int .i64 a.to, .int .i64 a.po, .int .i64 a.x.v, .int .i64 a.x.m, .int .u8 a.x.b0, .int .u8 a.x.b1, .int .u8 a.x.b2, .int .u8 a.x.i0, .int .u8 a.x.i1, .int .u8 a.x.i2, sa]) (some 6) rfl rfl (by kernel_rfl) (by kernel_rfl) (by kernel_rfl) (fun _ _ _ h => h) (Or.inl ⟨by rfl, ?_⟩) hS0 ?_
  · rintro w' ⟨s0, s1⟩
    have d0 := s0.cell 0 rfl
    have d1 := s0.cell 1 rfl
    have d2 := s0.cell 2 rfl
    have d3 := s0.cell 3 rfl
    have d4 := s0.cell 4 rfl
    have d5 := s0.cell 5 rfl
    have d6 := s0.cell 6 rfl
    have d7 := s0.cell 7 rfl
    have d8 := s0.cell 8 rfl
    have d9 := s0.cell 9 rfl
    have d10 := s0.cell 10 rfl
    have d11 := s0.cell 11 rfl
    have d12 := s0.cell 12 rfl
    go_simp
  try simp only [Act.put, List.setIfInBounds_toArray, List.set_cons_zero, List.set_cons_succ]
  refine takeD (i := 3) (v := .func (.func 115) #[] #[]) (some 8) rfl rfl (by kernel_rfl) (by kernel_rfl) (by kernel_rfl) (fun _ _ _ h => h) (Or.inl ⟨by rfl, ?_⟩) hS0 ?_
  · rintro w' _
    go_simp
  try simp only [Act.put, List.setIfInBounds_toArray, List.set_cons_zero, List.set_cons_succ]
  refine takeD (i := 4) (v := .agg #[.int .i64 b.k, .int .i64 b.pr, .int .i64 b.to, .int .i64 b.po, .int .i64 b.x.v, .int .i64 b.x.m, .int .u8 b.x.b0, .int .u8 b.x.b1, .int .u8 b.x.b2, .int .u8 b.x.i0, .int .u8 b.x.i1, .int .u8 b.x.i2, sb]) (some 9) rfl rfl (by kernel_rfl) (by kernel_rfl) (by kernel_rfl) (fun _ _ _ h => h) (Or.inl ⟨by rfl, ?_⟩) hS0 ?_
  · rintro w' ⟨s0, s1⟩
    have d0 := s1.cell 0 rfl
    have d1 := s1.cell 1 rfl
    have d2 := s1.cell 2 rfl
    have d3 := s1.cell 3 rfl
    have d4 := s1.cell 4 rfl
    have d5 := s1.cell 5 rfl
    have d6 := s1.cell 6 rfl
    have d7 := s1.cell 7 rfl
    have d8 := s1.cell 8 rfl
    have d9 := s1.cell 9 rfl
    have d10 := s1.cell 10 rfl
    have d11 := s1.cell 11 rfl
    have d12 := s1.cell 12 rfl
    go_simp
  try simp only [Act.put, List.setIfInBounds_toArray, List.set_cons_zero, List.set_cons_succ]
  refine wpAnyH_ready (rs := [2]) (by kernel_rfl) (by simp) ?_
  refine AllReadyH.cons rfl (fun K hK => ?_) AllReadyH.nil
  try rw [if_pos (by rfl)]
  go_simp
  go_at_call 115
  refine (read5 a sa _).mono ?_
  rintro e v1 ⟨rfl, hb1⟩
  have hB1 := hB.trans (hb1.mono hB.size)
  refine hK.out _ _ (⟨hS0.1.below hb1 hS0.1.lt, hS0.2.below hb1 hS0.2.lt⟩) (fun hS1 => ?_)
  clear hK K
  try simp only [Act.put, List.setIfInBounds_toArray, List.set_cons_zero, List.set_cons_succ]
  refine wpAnyH_ready (rs := [5]) (by kernel_rfl) (by simp) ?_
  refine AllReadyH.cons rfl (fun K hK => ?_) AllReadyH.nil
  try rw [if_pos (by rfl)]
  go_simp
  go_at_call 115
  refine (read5 b sb _).mono ?_
  rintro e v2 ⟨rfl, hb2⟩
  have hB2 := hB1.trans (hb2.mono hB1.size)
  refine hK.out _ _ (⟨hS1.1.below hb2 hS1.1.lt, hS1.2.below hb2 hS1.2.lt⟩) (fun hS2 => ?_)
  clear hK K
  try simp only [Act.put, List.setIfInBounds_toArray, List.set_cons_zero, List.set_cons_succ]
  refine wpAnyH_ready (rs := [6]) (by kernel_rfl) (by simp) ?_
  refine AllReadyH.cons rfl (fun K hK => ?_) AllReadyH.nil
  try rw [if_pos (by rfl)]
  go_simp
  go_at_call 98
  refine (cmp_intB a.pr b.pr _).mono ?_
  rintro e v3 ⟨rfl, hb3⟩
  have hB3 := hB2.trans (hb3.mono hB2.size)
  refine hK.out _ _ (⟨hS2.1.below hb3 hS2.1.lt, hS2.2.below hb3 hS2.2.lt⟩) (fun hS3 => ?_)
  clear hK K
  try simp only [Act.put, List.setIfInBounds_toArray, List.set_cons_zero, List.set_cons_succ]
  refine takeD (i := 7) (v := .int .i64 (cmpI a.pr b.pr)) (some 4) rfl rfl (by kernel_rfl) (by kernel_rfl) (by kernel_rfl) (fun _ _ _ h => h) (Or.inl ⟨by rfl, ?_⟩) hS3 ?_
  · rintro w' _
    go_simp
  try simp only [Act.put, List.setIfInBounds_toArray, List.set_cons_zero, List.set_cons_succ]
  refine wpAnyH_done (by kernel_rfl) ?_ _
  go_wp2_with fail
  go_ret
  exact ⟨rfl, hB3⟩
set_option maxRecDepth 100000 in
set_option maxHeartbeats 4000000 in
theorem numC6 {a b : RuleV} {sa sb : Value} {w : World} {ga gb : Nat} (hx : Vb 31 w ga [.int .i64 a.k, .int .i64 a.pr, .int .i64 a.to, .int .i64 a.po, .int .i64 a.x.v, .int .i64 a.x.m, .int .u8 a.x.b0, .int .u8 a.x.b1, .int .u8 a.x.b2, .int .u8 a.x.i0, .int .u8 a.x.i1, .int .u8 a.x.i2, sa]) (hy : Vb 31 w gb [.int .i64 b.k, .int .i64 b.pr, .int .i64 b.to, .int .i64 b.po, .int .i64 b.x.v, .int .i64 b.x.m, .int .u8 b.x.b0, .int .u8 b.x.b1, .int .u8 b.x.b2, .int .u8 b.x.i0, .int .u8 b.x.i1, .int .u8 b.x.i2, sb]) : Calls Try.prog 109 #[.func (.func 116) #[] #[], .pointer (some ⟨ga, 0, none⟩), .pointer (some ⟨gb, 0, none⟩)] w fun e w' => e = .returned (.int .i64 (cmpI a.x.v b.x.v)) ∧ Below w.heap.size w w' := by
  have hB : Below w.heap.size w w.drew := (Below.refl _ _).drew
  go_enter Try.func109, Try.ntmps109
  go_upto_region 1 with fail
  have hS0 : (fun W => Vb 31 W ga [.int .i64 a.k, .int .i64 a.pr, .int .i64 a.to, .int .i64 a.po, .int .i64 a.x.v, .int .i64 a.x.m, .int .u8 a.x.b0, .int .u8 a.x.b1, .int .u8 a.x.b2, .int .u8 a.x.i0, .int .u8 a.x.i1, .int .u8 a.x.i2, sa] ∧ Vb 31 W gb [.int .i64 b.k, .int .i64 b.pr, .int .i64 b.to, .int .i64 b.po, .int .i64 b.x.v, .int .i64 b.x.m, .int .u8 b.x.b0, .int .u8 b.x.b1, .int .u8 b.x.b2, .int .u8 b.x.i0, .int .u8 b.x.i1, .int .u8 b.x.i2, sb]) w.drew := ⟨hx, hy⟩
  refine wp_region_held_drew (S := fun W => Vb 31 W ga [.int .i64 a.k, .int .i64 a.pr, .int .i64 a.to, .int .i64 a.po, .int .i64 a.x.v, .int .i64 a.x.m, .int .u8 a.x.b0, .int .u8 a.x.b1, .int .u8 a.x.b2, .int .u8 a.x.i0, .int .u8 a.x.i1, .int .u8 a.x.i2, sa] ∧ Vb 31 W gb [.int .i64 b.k, .int .i64 b.pr, .int .i64 b.to, .int .i64 b.po, .int .i64 b.x.v, .int .i64 b.x.m, .int .u8 b.x.b0, .int .u8 b.x.b1, .int .u8 b.x.b2, .int .u8 b.x.i0, .int .u8 b.x.i1, .int .u8 b.x.i2, sb]) (by kernel_rfl) hS0 (fun _ => ?_)
  clear hx hy
  generalize w.drew = u0 at *
  refine takeD (i := 0) (v := .func (.func 116) #[] #[]) (some 5) rfl rfl (by kernel_rfl) (by kernel_rfl) (by kernel_rfl) (fun _ _ _ h => h) (Or.inl ⟨by rfl, ?_⟩) hS0 ?_
  · rintro w' _
    go_simp
  try simp only [Act.put, List.setIfInBounds_toArray, List.set_cons_zero, List.set_cons_succ]
  refine takeD (i := 1) (v := .agg #[.int .i64 a.k, .int .i64 a.pr, .int .i64 a.to, .int .i64 a.po, .int .i64 a.x.v, .int .i64 a.x.m, .int .u8 a.x.b0, .int .u8 a.x.b1, .int .u8 a.x.b2, .int .u8 a.x.i0, .int .u8 a.x.i1, .int .u8 a.x.i2, sa]) (some 6) rfl rfl (by kernel_rfl) (by kernel_rfl) (by kernel_rfl) (fun _ _ _ h => h) (Or.inl ⟨by rfl, ?_⟩) hS0 ?_
  · rintro w' ⟨s0, s1⟩
    have d0 := s0.cell 0 rfl
    have d1 := s0.cell 1 rfl
    have d2 := s0.cell 2 rfl
    have d3 := s0.cell 3 rfl
    have d4 := s0.cell 4 rfl
    have d5 := s0.cell 5 rfl
    have d6 := s0.cell 6 rfl
    have d7 := s0.cell 7 rfl
    have d8 := s0.cell 8 rfl
    have d9 := s0.cell 9 rfl
    have d10 := s0.cell 10 rfl
    have d11 := s0.cell 11 rfl
    have d12 := s0.cell 12 rfl
    go_simp
  try simp only [Act.put, List.setIfInBounds_toArray, List.set_cons_zero, List.set_cons_succ]
  refine takeD (i := 3) (v := .func (.func 116) #[] #[]) (some 8) rfl rfl (by kernel_rfl) (by kernel_rfl) (by kernel_rfl) (fun _ _ _ h => h) (Or.inl ⟨by rfl, ?_⟩) hS0 ?_
  · rintro w' _
    go_simp
  try simp only [Act.put, List.setIfInBounds_toArray, List.set_cons_zero, List.set_cons_succ]
  refine takeD (i := 4) (v := .agg #[.int .i64 b.k, .int .i64 b.pr, .int .i64 b.to, .int .i64 b.po, .int .i64 b.x.v, .int .i64 b.x.m, .int .u8 b.x.b0, .int .u8 b.x.b1, .int .u8 b.x.b2, .int .u8 b.x.i0, .int .u8 b.x.i1, .int .u8 b.x.i2, sb]) (some 9) rfl rfl (by kernel_rfl) (by kernel_rfl) (by kernel_rfl) (fun _ _ _ h => h) (Or.inl ⟨by rfl, ?_⟩) hS0 ?_
  · rintro w' ⟨s0, s1⟩
    have d0 := s1.cell 0 rfl
    have d1 := s1.cell 1 rfl
    have d2 := s1.cell 2 rfl
    have d3 := s1.cell 3 rfl
    have d4 := s1.cell 4 rfl
    have d5 := s1.cell 5 rfl
    have d6 := s1.cell 6 rfl
    have d7 := s1.cell 7 rfl
    have d8 := s1.cell 8 rfl
    have d9 := s1.cell 9 rfl
    have d10 := s1.cell 10 rfl
    have d11 := s1.cell 11 rfl
    have d12 := s1.cell 12 rfl
    go_simp
  try simp only [Act.put, List.setIfInBounds_toArray, List.set_cons_zero, List.set_cons_succ]
  refine wpAnyH_ready (rs := [2]) (by kernel_rfl) (by simp) ?_
  refine AllReadyH.cons rfl (fun K hK => ?_) AllReadyH.nil
  try rw [if_pos (by rfl)]
  go_simp
  go_at_call 116
  refine (read6 a sa _).mono ?_
  rintro e v1 ⟨rfl, hb1⟩
  have hB1 := hB.trans (hb1.mono hB.size)
  refine hK.out _ _ (⟨hS0.1.below hb1 hS0.1.lt, hS0.2.below hb1 hS0.2.lt⟩) (fun hS1 => ?_)
  clear hK K
  try simp only [Act.put, List.setIfInBounds_toArray, List.set_cons_zero, List.set_cons_succ]
  refine wpAnyH_ready (rs := [5]) (by kernel_rfl) (by simp) ?_
  refine AllReadyH.cons rfl (fun K hK => ?_) AllReadyH.nil
  try rw [if_pos (by rfl)]
  go_simp
  go_at_call 116
  refine (read6 b sb _).mono ?_
  rintro e v2 ⟨rfl, hb2⟩
  have hB2 := hB1.trans (hb2.mono hB1.size)
  refine hK.out _ _ (⟨hS1.1.below hb2 hS1.1.lt, hS1.2.below hb2 hS1.2.lt⟩) (fun hS2 => ?_)
  clear hK K
  try simp only [Act.put, List.setIfInBounds_toArray, List.set_cons_zero, List.set_cons_succ]
  refine wpAnyH_ready (rs := [6]) (by kernel_rfl) (by simp) ?_
  refine AllReadyH.cons rfl (fun K hK => ?_) AllReadyH.nil
  try rw [if_pos (by rfl)]
  go_simp
  go_at_call 98
  refine (cmp_intB a.x.v b.x.v _).mono ?_
  rintro e v3 ⟨rfl, hb3⟩
  have hB3 := hB2.trans (hb3.mono hB2.size)
  refine hK.out _ _ (⟨hS2.1.below hb3 hS2.1.lt, hS2.2.below hb3 hS2.2.lt⟩) (fun hS3 => ?_)
  clear hK K
  try simp only [Act.put, List.setIfInBounds_toArray, List.set_cons_zero, List.set_cons_succ]
  refine takeD (i := 7) (v := .int .i64 (cmpI a.x.v b.x.v)) (some 4) rfl rfl (by kernel_rfl) (by kernel_rfl) (by kernel_rfl) (fun _ _ _ h => h) (Or.inl ⟨by rfl, ?_⟩) hS3 ?_
  · rintro w' _
    go_simp
  try simp only [Act.put, List.setIfInBounds_toArray, List.set_cons_zero, List.set_cons_succ]
  refine wpAnyH_done (by kernel_rfl) ?_ _
  go_wp2_with fail
  go_ret
  exact ⟨rfl, hB3⟩
set_option maxRecDepth 100000 in
set_option maxHeartbeats 4000000 in
theorem numC7 {a b : RuleV} {sa sb : Value} {w : World} {ga gb : Nat} (hx : Vb 31 w ga [.int .i64 a.k, .int .i64 a.pr, .int .i64 a.to, .int .i64 a.po, .int .i64 a.x.v, .int .i64 a.x.m, .int .u8 a.x.b0, .int .u8 a.x.b1, .int .u8 a.x.b2, .int .u8 a.x.i0, .int .u8 a.x.i1, .int .u8 a.x.i2, sa]) (hy : Vb 31 w gb [.int .i64 b.k, .int .i64 b.pr, .int .i64 b.to, .int .i64 b.po, .int .i64 b.x.v, .int .i64 b.x.m, .int .u8 b.x.b0, .int .u8 b.x.b1, .int .u8 b.x.b2, .int .u8 b.x.i0, .int .u8 b.x.i1, .int .u8 b.x.i2, sb]) : Calls Try.prog 109 #[.func (.func 117) #[] #[], .pointer (some ⟨ga, 0, none⟩), .pointer (some ⟨gb, 0, none⟩)] w fun e w' => e = .returned (.int .i64 (cmpI a.x.m b.x.m)) ∧ Below w.heap.size w w' := by
  have hB : Below w.heap.size w w.drew := (Below.refl _ _).drew
  go_enter Try.func109, Try.ntmps109
  go_upto_region 1 with fail
  have hS0 : (fun W => Vb 31 W ga [.int .i64 a.k, .int .i64 a.pr, .int .i64 a.to, .int .i64 a.po, .int .i64 a.x.v, .int .i64 a.x.m, .int .u8 a.x.b0, .int .u8 a.x.b1, .int .u8 a.x.b2, .int .u8 a.x.i0, .int .u8 a.x.i1, .int .u8 a.x.i2, sa] ∧ Vb 31 W gb [.int .i64 b.k, .int .i64 b.pr, .int .i64 b.to, .int .i64 b.po, .int .i64 b.x.v, .int .i64 b.x.m, .int .u8 b.x.b0, .int .u8 b.x.b1, .int .u8 b.x.b2, .int .u8 b.x.i0, .int .u8 b.x.i1, .int .u8 b.x.i2, sb]) w.drew := ⟨hx, hy⟩
  refine wp_region_held_drew (S := fun W => Vb 31 W ga [.int .i64 a.k, .int .i64 a.pr, .int .i64 a.to, .int .i64 a.po, .int .i64 a.x.v, .int .i64 a.x.m, .int .u8 a.x.b0, .int .u8 a.x.b1, .int .u8 a.x.b2, .int .u8 a.x.i0, .int .u8 a.x.i1, .int .u8 a.x.i2, sa] ∧ Vb 31 W gb [.int .i64 b.k, .int .i64 b.pr, .int .i64 b.to, .int .i64 b.po, .int .i64 b.x.v, .int .i64 b.x.m, .int .u8 b.x.b0, .int .u8 b.x.b1, .int .u8 b.x.b2, .int .u8 b.x.i0, .int .u8 b.x.i1, .int .u8 b.x.i2, sb]) (by kernel_rfl) hS0 (fun _ => ?_)
  clear hx hy
  generalize w.drew = u0 at *
  refine takeD (i := 0) (v := .func (.func 117) #[] #[]) (some 5) rfl rfl (by kernel_rfl) (by kernel_rfl) (by kernel_rfl) (fun _ _ _ h => h) (Or.inl ⟨by rfl, ?_⟩) hS0 ?_
  · rintro w' _
    go_simp
  try simp only [Act.put, List.setIfInBounds_toArray, List.set_cons_zero, List.set_cons_succ]
  refine takeD (i := 1) (v := .agg #[.int .i64 a.k, .int .i64 a.pr, .int .i64 a.to, .int .i64 a.po, .int .i64 a.x.v, .int .i64 a.x.m, .int .u8 a.x.b0, .int .u8 a.x.b1, .int .u8 a.x.b2, .int .u8 a.x.i0, .int .u8 a.x.i1, .int .u8 a.x.i2, sa]) (some 6) rfl rfl (by kernel_rfl) (by kernel_rfl) (by kernel_rfl) (fun _ _ _ h => h) (Or.inl ⟨by rfl, ?_⟩) hS0 ?_
  · rintro w' ⟨s0, s1⟩
    have d0 := s0.cell 0 rfl
    have d1 := s0.cell 1 rfl
    have d2 := s0.cell 2 rfl
    have d3 := s0.cell 3 rfl
    have d4 := s0.cell 4 rfl
    have d5 := s0.cell 5 rfl
    have d6 := s0.cell 6 rfl
    have d7 := s0.cell 7 rfl
    have d8 := s0.cell 8 rfl
    have d9 := s0.cell 9 rfl
    have d10 := s0.cell 10 rfl
    have d11 := s0.cell 11 rfl
    have d12 := s0.cell 12 rfl
    go_simp
  try simp only [Act.put, List.setIfInBounds_toArray, List.set_cons_zero, List.set_cons_succ]
  refine takeD (i := 3) (v := .func (.func 117) #[] #[]) (some 8) rfl rfl (by kernel_rfl) (by kernel_rfl) (by kernel_rfl) (fun _ _ _ h => h) (Or.inl ⟨by rfl, ?_⟩) hS0 ?_
  · rintro w' _
    go_simp
  try simp only [Act.put, List.setIfInBounds_toArray, List.set_cons_zero, List.set_cons_succ]
  refine takeD (i := 4) (v := .agg #[.int .i64 b.k, .int .i64 b.pr, .int .i64 b.to, .int .i64 b.po, .int .i64 b.x.v, .int .i64 b.x.m, .int .u8 b.x.b0, .int .u8 b.x.b1, .int .u8 b.x.b2, .int .u8 b.x.i0, .int .u8 b.x.i1, .int .u8 b.x.i2, sb]) (some 9) rfl rfl (by kernel_rfl) (by kernel_rfl) (by kernel_rfl) (fun _ _ _ h => h) (Or.inl ⟨by rfl, ?_⟩) hS0 ?_
  · rintro w' ⟨s0, s1⟩
    have d0 := s1.cell 0 rfl
    have d1 := s1.cell 1 rfl
    have d2 := s1.cell 2 rfl
    have d3 := s1.cell 3 rfl
    have d4 := s1.cell 4 rfl
    have d5 := s1.cell 5 rfl
    have d6 := s1.cell 6 rfl
    have d7 := s1.cell 7 rfl
    have d8 := s1.cell 8 rfl
    have d9 := s1.cell 9 rfl
    have d10 := s1.cell 10 rfl
    have d11 := s1.cell 11 rfl
    have d12 := s1.cell 12 rfl
    go_simp
  try simp only [Act.put, List.setIfInBounds_toArray, List.set_cons_zero, List.set_cons_succ]
  refine wpAnyH_ready (rs := [2]) (by kernel_rfl) (by simp) ?_
  refine AllReadyH.cons rfl (fun K hK => ?_) AllReadyH.nil
  try rw [if_pos (by rfl)]
  go_simp
  go_at_call 117
  refine (read7 a sa _).mono ?_
  rintro e v1 ⟨rfl, hb1⟩
  have hB1 := hB.trans (hb1.mono hB.size)
  refine hK.out _ _ (⟨hS0.1.below hb1 hS0.1.lt, hS0.2.below hb1 hS0.2.lt⟩) (fun hS1 => ?_)
  clear hK K
  try simp only [Act.put, List.setIfInBounds_toArray, List.set_cons_zero, List.set_cons_succ]
  refine wpAnyH_ready (rs := [5]) (by kernel_rfl) (by simp) ?_
  refine AllReadyH.cons rfl (fun K hK => ?_) AllReadyH.nil
  try rw [if_pos (by rfl)]
  go_simp
  go_at_call 117
  refine (read7 b sb _).mono ?_
  rintro e v2 ⟨rfl, hb2⟩
  have hB2 := hB1.trans (hb2.mono hB1.size)
  refine hK.out _ _ (⟨hS1.1.below hb2 hS1.1.lt, hS1.2.below hb2 hS1.2.lt⟩) (fun hS2 => ?_)
  clear hK K
  try simp only [Act.put, List.setIfInBounds_toArray, List.set_cons_zero, List.set_cons_succ]
  refine wpAnyH_ready (rs := [6]) (by kernel_rfl) (by simp) ?_
  refine AllReadyH.cons rfl (fun K hK => ?_) AllReadyH.nil
  try rw [if_pos (by rfl)]
  go_simp
  go_at_call 98
  refine (cmp_intB a.x.m b.x.m _).mono ?_
  rintro e v3 ⟨rfl, hb3⟩
  have hB3 := hB2.trans (hb3.mono hB2.size)
  refine hK.out _ _ (⟨hS2.1.below hb3 hS2.1.lt, hS2.2.below hb3 hS2.2.lt⟩) (fun hS3 => ?_)
  clear hK K
  try simp only [Act.put, List.setIfInBounds_toArray, List.set_cons_zero, List.set_cons_succ]
  refine takeD (i := 7) (v := .int .i64 (cmpI a.x.m b.x.m)) (some 4) rfl rfl (by kernel_rfl) (by kernel_rfl) (by kernel_rfl) (fun _ _ _ h => h) (Or.inl ⟨by rfl, ?_⟩) hS3 ?_
  · rintro w' _
    go_simp
  try simp only [Act.put, List.setIfInBounds_toArray, List.set_cons_zero, List.set_cons_succ]
  refine wpAnyH_done (by kernel_rfl) ?_ _
  go_wp2_with fail
  go_ret
  exact ⟨rfl, hB3⟩
end Go.Proofs.Ytcolklkjaifplaa.Oct
