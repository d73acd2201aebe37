/- The chapter's bytes hold: the function works of the laws of layer 1 answers true. -/
import Derived.Test.YtefohkhipnikhaaOctH
namespace Go.Proofs.Ytefohkhipnikhaa.Oct
open Go.RowKit
set_option linter.unusedVariables false

theorem byOf {l : List Int} (h : l.all (fun z => decide (0 ≤ z ∧ z < 256)) = true) : By l := fun z hz => by simpa using List.all_eq_true.1 h z hz
theorem alloc_size (w : World) (o : Obj) : (w.alloc o).heap.size = w.heap.size + 1 := by simp
theorem Own.rdIn {w w' : World} {b : Nat} {A : Option Addr} {n c : Nat} {l : List Int} (h : Own w b (.slice A n c) n l) (hb : Below w.heap.size w w') : Rd .u8 w' w.heap.size A n c l := h.rd.below hb

set_option maxRecDepth 100000 in
set_option maxHeartbeats 4000000 in
theorem works_any (w : World) :
    Calls Try.prog 25 #[] w fun e w' => e = .returned (.bool true) ∧ Below w.heap.size w w' := by
  go_enter Try.func25, Try.ntmps25
  have t0 : Below w.heap.size w w := Below.refl _ _
  go_wp2_with fail
  refine (put_any 2 (Rd.nil .u8 _ 0) (rd_lit .i64 w 3 [1, 515] (by simp [maxLen]) (w.heap.size + 1) (by omega)) (by simp) (by simp) (by simp)).mono ?_
  rw [show putP [] 2 [1, 515] = ([0, 1, 2, 3], 0) from by decide +kernel]
  rintro e w1 ⟨A1, n1, c1, rfl, ho1, hb1⟩
  have st1 : Below w.heap.size w w1 := (below_alloc w _).trans (hb1.mono (by simp))
  have t1 := bstep t0 st1 t0.size
  have z1 := st1.size
  clear hb1
  have s1_1 : Below w1.heap.size w1 w1 := Below.refl _ _
  have Ho1 := Kp.mk ho1
  clear ho1
  go_wp2_with fail
  refine (put_any 3 (Rd.nil .u8 _ 0) (rd_lit .i64 w1 3 [1] (by simp [maxLen]) (w1.heap.size + 1) (by omega)) (by simp) (by simp) (by simp)).mono ?_
  rw [show putP [] 3 [1] = ([], 2) from by decide +kernel]
  rintro e w2 ⟨A2, n2, c2, rfl, ho2, hb2⟩
  have st2 : Below w1.heap.size w1 w2 := (below_alloc w1 _).trans (hb2.mono (by simp))
  have t2 := bstep t1 st2 t1.size
  have z2 := st2.size
  clear hb2
  have s1_2 := bstep s1_1 st2 s1_1.size
  clear ho2
  go_wp2_with fail
  refine (put_any 1 (Rd.nil .u8 _ 0) (rd_lit .i64 w2 3 [256] (by simp [maxLen]) (w2.heap.size + 1) (by omega)) (by simp) (by simp) (by simp)).mono ?_
  rw [show putP [] 1 [256] = ([], 9) from by decide +kernel]
  rintro e w3 ⟨A3, n3, c3, rfl, ho3, hb3⟩
  have st3 : Below w2.heap.size w2 w3 := (below_alloc w2 _).trans (hb3.mono (by simp))
  have t3 := bstep t2 st3 t2.size
  have z3 := st3.size
  clear hb3
  have s1_3 := bstep s1_2 st3 s1_2.size
  clear ho3
  have kc := Lib.run_convert_bytes_const (P := Try.prog) w3 22 5 #[.int .u8 97, .int .u8 98] 2 2 Try.underlying22 Try.underlying5
  go_wp2_with fail
  clear kc
  refine (text_any (Rd.nil .u8 _ 0) (rd_litm .u8 w3 5 (2, 3) [97, 98] (by simp [maxLen]) (w3.heap.size + 1) (by omega)) (by simp) (by simp) (by simp)).mono ?_
  rw [show textP [] [97, 98] = ([0, 2, 97, 98], 0) from by decide +kernel]
  rintro e w4 ⟨A4, n4, c4, rfl, ho4, hb4⟩
  have st4 : Below w3.heap.size w3 w4 := (below_alloc w3 _).trans (hb4.mono (by simp))
  have t4 := bstep t3 st4 t3.size
  have z4 := st4.size
  clear hb4
  have s1_4 := bstep s1_3 st4 s1_3.size
  have s4_4 : Below w4.heap.size w4 w4 := Below.refl _ _
  have Ho4 := Kp.mk ho4
  clear ho4
  go_wp2_with fail
  refine (seal_any 1 (Rd.nil .u8 _ 0) By.nil (by simp) (by simp)).mono ?_
  rw [show sealP 1 [] = ([1, 241, 209], 0) from by decide +kernel]
  rintro e w5 ⟨A5, n5, c5, rfl, ho5, st5⟩
  have t5 := bstep t4 st5 t4.size
  have z5 := st5.size
  have s1_5 := bstep s1_4 st5 s1_4.size
  have s4_5 := bstep s4_4 st5 s4_4.size
  have s5_5 : Below w5.heap.size w5 w5 := Below.refl _ _
  have Ho5 := Kp.mk ho5
  clear ho5
  go_wp2_with fail
  refine (eqBytes_any (Ho1.out.rdIn (bstep s1_5 (below_alloc w5 _) s1_5.size)) (rd_lit .u8 w5 5 [0, 1, 2, 3] (by simp [maxLen]) (w5.heap.size + 1) (by omega)) (byOf rfl) (byOf rfl)).mono ?_
  rw [show decide (([0, 1, 2, 3] : List Int) = [0, 1, 2, 3]) = true from rfl]
  rintro e w' ⟨rfl, rfl⟩
  generalize hww6 : World.alloc w5 _ = w6
  have st6 : Below w5.heap.size w5 w6 := hww6 ▸ below_alloc w5 _
  clear hww6
  have t6 := bstep t5 st6 t5.size
  have z6 := st6.size
  have s4_6 := bstep s4_5 st6 s4_5.size
  have s5_6 := bstep s5_5 st6 s5_5.size
  go_wp2_with fail
  refine (eqBytes_any (Ho4.out.rdIn (bstep s4_6 (below_alloc w6 _) s4_6.size)) (rd_lit .u8 w6 5 [0, 2, 97, 98] (by simp [maxLen]) (w6.heap.size + 1) (by omega)) (byOf rfl) (byOf rfl)).mono ?_
  rw [show decide (([0, 2, 97, 98] : List Int) = [0, 2, 97, 98]) = true from rfl]
  rintro e w' ⟨rfl, rfl⟩
  generalize hww7 : World.alloc w6 _ = w7
  have st7 : Below w6.heap.size w6 w7 := hww7 ▸ below_alloc w6 _
  clear hww7
  have t7 := bstep t6 st7 t6.size
  have z7 := st7.size
  have s5_7 := bstep s5_6 st7 s5_6.size
  have kc := Lib.run_convert_bytes_const (P := Try.prog) w7 22 5 #[.int .u8 49, .int .u8 50, .int .u8 51, .int .u8 52, .int .u8 53, .int .u8 54, .int .u8 55, .int .u8 56, .int .u8 57] 9 9 Try.underlying22 Try.underlying5
  go_wp2_with fail
  clear kc
  refine (sum_any (rd_litm .u8 w7 5 (9, 10) [49, 50, 51, 52, 53, 54, 55, 56, 57] (by simp [maxLen]) (w7.heap.size + 1) (by omega)) (byOf rfl)).mono ?_
  rw [show sumP [49, 50, 51, 52, 53, 54, 55, 56, 57] = 10673 from by decide +kernel]
  rintro e w' ⟨rfl, rfl⟩
  generalize hww8 : World.alloc w7 _ = w8
  have st8 : Below w7.heap.size w7 w8 := hww8 ▸ below_alloc w7 _
  clear hww8
  have t8 := bstep t7 st8 t7.size
  have z8 := st8.size
  have s5_8 := bstep s5_7 st8 s5_7.size
  go_wp2_with fail
  refine (eqBytes_any (Ho5.out.rdIn (bstep s5_8 (below_alloc w8 _) s5_8.size)) (rd_lit .u8 w8 5 [1, 241, 209] (by simp [maxLen]) (w8.heap.size + 1) (by omega)) (byOf rfl) (byOf rfl)).mono ?_
  rw [show decide (([1, 241, 209] : List Int) = [1, 241, 209]) = true from rfl]
  rintro e w' ⟨rfl, rfl⟩
  generalize hww9 : World.alloc w8 _ = w9
  have st9 : Below w8.heap.size w8 w9 := hww9 ▸ below_alloc w8 _
  clear hww9
  have t9 := bstep t8 st9 t8.size
  have z9 := st9.size
  go_wp2_with fail
  refine (open_any (rd_lit .u8 w9 5 [1, 241, 209] (by simp [maxLen]) (w9.heap.size + 1) (by omega)) (byOf rfl) (by simp)).mono ?_
  rw [show openP [1, 241, 209] = (1, [], 0) from by decide +kernel]
  rintro e w10 ⟨A10, n10, c10, rfl, ho10, hb10⟩
  have hn10 := ho10.len
  simp at hn10
  subst hn10
  have st10 : Below w9.heap.size w9 w10 := (below_alloc w9 _).trans (hb10.mono (by simp))
  clear hb10 ho10
  have t10 := bstep t9 st10 t9.size
  have z10 := st10.size
  go_wp2_with fail
  refine (open_any (rd_lit .u8 w10 5 [1, 241, 208] (by simp [maxLen]) (w10.heap.size + 1) (by omega)) (byOf rfl) (by simp)).mono ?_
  rw [show openP [1, 241, 208] = (0, [], 30) from by decide +kernel]
  rintro e w11 ⟨A11, n11, c11, rfl, ho11, hb11⟩
  have hn11 := ho11.len
  simp at hn11
  subst hn11
  have st11 : Below w10.heap.size w10 w11 := (below_alloc w10 _).trans (hb11.mono (by simp))
  clear hb11 ho11
  have t11 := bstep t10 st11 t10.size
  have z11 := st11.size
  go_wp2_with fail
  refine (open_any (rd_lit .u8 w11 5 [1] (by simp [maxLen]) (w11.heap.size + 1) (by omega)) (byOf rfl) (by simp)).mono ?_
  rw [show openP [1] = (0, [], 3) from by decide +kernel]
  rintro e w12 ⟨A12, n12, c12, rfl, ho12, hb12⟩
  have hn12 := ho12.len
  simp at hn12
  subst hn12
  have st12 : Below w11.heap.size w11 w12 := (below_alloc w11 _).trans (hb12.mono (by simp))
  clear hb12 ho12
  have t12 := bstep t11 st12 t11.size
  have z12 := st12.size
  go_wp2_with fail
  go_ret
  exact ⟨rfl, t12⟩
end Go.Proofs.Ytefohkhipnikhaa.Oct
