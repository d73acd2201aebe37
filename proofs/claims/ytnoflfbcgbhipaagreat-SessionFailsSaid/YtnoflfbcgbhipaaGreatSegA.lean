import Derived.Test.YtnoflfbcgbhipaaGreatVst
set_option linter.unusedSimpArgs false
set_option linter.unusedVariables false
set_option maxRecDepth 100000
set_option maxHeartbeats 4000000
namespace Go.Proofs.YtnoflfbcgbhipaaGreat.Oct
open Go.RowKit
def wayS (t f : Int) : Prop := (f = 0 ∧ (1 ≤ t ∧ t ≤ 6)) ∨ (t = 0 ∧ (1 ≤ f ∧ f ≤ 6))
def okS (k t f h p o s a : Int) (m : Nat) : Prop :=
 (0 ≤ h ∧ h ≤ 12) ∧
 ((k = 1 ∧ (f = 0 ∧ (1 ≤ t ∧ t ≤ 6)) ∧ p = 0 ∧ o = 0 ∧ s = 0 ∧ a = 0 ∧ m = 0) ∨
  (k = 2 ∧ (t = 0 ∧ (1 ≤ f ∧ f ≤ 6)) ∧ p = 0 ∧ (0 ≤ o ∧ o ≤ 4294967295) ∧ s = 0 ∧ a = 0 ∧ m = 0) ∨
  (k = 3 ∧ (f = 0 ∧ (1 ≤ t ∧ t ≤ 6)) ∧ (1 ≤ p ∧ p ≤ 4294967295) ∧ (0 ≤ o ∧ o ≤ 4294967295) ∧ s = 0 ∧ a = 0 ∧ m = 0) ∨
  (k = 4 ∧ wayS t f ∧ (1 ≤ p ∧ p ≤ 4294967295) ∧ o = 0 ∧ s = 0 ∧ (0 ≤ a ∧ a ≤ 65535) ∧ m = 0) ∨
  (k = 5 ∧ wayS t f ∧ (1 ≤ p ∧ p ≤ 4294967295) ∧ o = 0 ∧ (0 ≤ s ∧ s ≤ 65535) ∧ a = 0 ∧ (1 ≤ m ∧ m ≤ 256)))
instance (t f : Int) : Decidable (wayS t f) := by unfold wayS; infer_instance
instance (k t f h p o s a : Int) (m : Nat) : Decidable (okS k t f h p o s a m) := by unfold okS; infer_instance
theorem okS_bd {k t f h p o s a : Int} {m : Nat} (ok : okS k t f h p o s a m) :
  (1 ≤ k ∧ k ≤ 5) ∧ (0 ≤ t ∧ t ≤ 6) ∧ (0 ≤ f ∧ f ≤ 6) ∧ (0 ≤ h ∧ h ≤ 12) ∧ (0 ≤ p ∧ p ≤ 4294967295) ∧ (0 ≤ o ∧ o ≤ 4294967295) ∧ (0 ≤ s ∧ s ≤ 65535) ∧ (0 ≤ a ∧ a ≤ 65535) ∧ m ≤ 256 := by
 unfold okS wayS at ok
 omega
def checkS (k t f h p o s a : Int) (m : Nat) : Int := if okS k t f h p o s a m then 0 else 2
theorem checkS_zero (k t f h p o s a : Int) (m : Nat) : checkS k t f h p o s a m = 0 ↔ okS k t f h p o s a m := by
 unfold checkS
 split
 ·rename_i h; exact ⟨fun _ => h, fun _ => rfl⟩
 ·rename_i h; exact ⟨fun e => by omega, fun e => absurd e h⟩
def Sg (w : World) (g : Nat) (vs : List Int) (m : Value) : Prop := w.heap[g]? = some (.cells ((vs.map (Value.int .i64)).toArray.push m) 54 (0, 0))
section
variable {w w' : World} {g r B : Nat} {vs : List Int} {m : Value}
theorem Sg.lt (hx : Sg w g vs m) : g < w.heap.size := (Array.getElem?_eq_some_iff.1 hx).1
theorem Sg.new (w : World) (vs : List Int) (m : Value) : Sg (w.alloc (.cells ((vs.map (Value.int .i64)).toArray.push m) 54)) w.heap.size vs m := heap_alloc_new w _
theorem Sg.below (hx : Sg w g vs m) (hb : Below B w w') (hB : g < B) : Sg w' g vs m := (hb.block g hB).trans hx
theorem Sg.alloc (hx : Sg w g vs m) (ob : Obj) : Sg (w.alloc ob) g vs m := hx.below (below_alloc w ob) hx.lt
theorem Sg.cell (hx : Sg w g vs m) (j : Nat) (hj : j < vs.length) : w.cell? ⟨g, j, none⟩ = some (.int .i64 (vs.getD j 0)) := by
 have e : (vs.map (Value.int .i64) ++ [m])[j]? = some (.int .i64 vs[j]) := by rw [List.getElem?_append_left (by simpa using hj)]; simp [List.getElem?_eq_getElem hj]
 simp [World.cell?, show w.heap[g]? = _ from hx, List.getD_eq_getElem?_getD, List.getElem?_eq_getElem hj, e]
theorem Sg.set (hx : Sg w g vs m) (j : Nat) (hj : j < vs.length) (x : Int) : Sg (w.setCell ⟨g, j, none⟩ (.int .i64 x)) g (vs.set j x) m := by
 unfold Sg
 simp only [World.setCell, Array.getElem?_modify, show w.heap[g]? = _ from hx, if_pos, Option.map_some]
 simp only [Obj.cells.injEq, and_true, Option.some.injEq, List.map_set]
 apply Array.ext'
 simp [hj]
theorem Sg.setMsg (hx : Sg w g vs m) (m' : Value) : Sg (w.setCell ⟨g, vs.length, none⟩ m') g vs m' := by
 unfold Sg
 simp only [World.setCell, Array.getElem?_modify, show w.heap[g]? = _ from hx, if_pos, Option.map_some]
 simp only [Obj.cells.injEq, and_true, Option.some.injEq]
 apply Array.ext'
 simp
def putS (w : World) (g : Nat) (k t f h p o s a : Int) (m : Value) : World :=
 ((((((((w.setCell ⟨g, 0, none⟩ (.int .i64 k)).setCell ⟨g, 1, none⟩ (.int .i64 t)).setCell ⟨g, 2, none⟩ (.int .i64 f)).setCell ⟨g, 3, none⟩ (.int .i64 h)).setCell ⟨g, 4, none⟩ (.int .i64 p)).setCell ⟨g, 5, none⟩ (.int .i64 o)).setCell ⟨g, 6, none⟩ (.int .i64 s)).setCell ⟨g, 7, none⟩ (.int .i64 a)).setCell ⟨g, 8, none⟩ m
theorem Sg.put {k t f h p o s a k' t' f' h' p' o' s' a' : Int} {m' : Value} (hx : Sg w g [k, t, f, h, p, o, s, a] m) : Sg (putS w g k' t' f' h' p' o' s' a' m') g [k', t', f', h', p', o', s', a'] m' :=
 ((((((((hx.set 0 (by simp) k').set 1 (by simp) t').set 2 (by simp) f').set 3 (by simp) h').set 4 (by simp) p').set 5 (by simp) o').set 6 (by simp) s').set 7 (by simp) a').setMsg m'
end
def withinP (n a b : Int) : Bool := decide (a ≤ n ∧ n ≤ b)
theorem within_any (n a b : Int) (w : World) : Calls Tryz.prog 120 #[.int .i64 n, .int .i64 a, .int .i64 b] w fun e w' => e = .returned (.bool (withinP n a b)) ∧ w = w' := by
 by_cases h1 : a ≤ n
 ·by_cases h2 : n ≤ b
  ·have hp := Kp.mk (show withinP n a b = true from decide_eq_true ⟨h1, h2⟩)
   go_enter Tryz.func120, Tryz.ntmps120
   go_wp2_with fail
   rw [hp.out]
   go_ret
   exact ⟨rfl, rfl⟩
  ·have hp := Kp.mk (show withinP n a b = false from decide_eq_false (fun h => h2 h.2))
   go_enter Tryz.func120, Tryz.ntmps120
   go_wp2_with fail
   rw [hp.out]
   go_ret
   exact ⟨rfl, rfl⟩
 ·have hp := Kp.mk (show withinP n a b = false from decide_eq_false (fun h => h1 h.1))
  go_enter Tryz.func120, Tryz.ntmps120
  go_wp2_with fail
  rw [hp.out]
  go_ret
  exact ⟨rfl, rfl⟩
def hasP (H q : Int) : Bool := bits .and .u64 H q == 0
def takeP (H q n a b : Int) : Bool := if hasP H q then (n == 0) else withinP n a b
theorem segTake_any (H q n a b : Int) (w : World) : Calls Tryz.prog 119 #[.int .u64 H, .int .u64 q, .int .i64 n, .int .i64 a, .int .i64 b] w fun e w' => e = .returned (.bool (takeP H q n a b)) ∧ w = w' := by
 by_cases h1 : hasP H q = true
 ·have hp := Kp.mk (show takeP H q n a b = (n == 0) from if_pos h1)
  unfold hasP at h1
  go_enter Tryz.func119, Tryz.ntmps119
  go_wp2_with fail
  go_ret
  exact ⟨by rw [hp.out]; rfl, rfl⟩
 ·have h2 : hasP H q = false := by simpa using h1
  have hp := Kp.mk (show takeP H q n a b = withinP n a b by unfold takeP; rw [h2]; rfl)
  unfold hasP at h2
  clear h1
  go_enter Tryz.func119, Tryz.ntmps119
  go_wp2_with fail
  refine (within_any _ _ _ _).mono ?_
  rintro e w' ⟨rfl, rfl⟩
  go_wp2_with fail
  go_ret
  exact ⟨by rw [hp.out]; rfl, rfl⟩
def partsP (k : Int) : Int := if k = 1 then 1 else if k = 2 then 10 else if k = 3 then 13 else if k = 4 then 39 else if k = 5 then 87 else 0
theorem segPartsOf_any (k : Int) (w : World) : Calls Tryz.prog 118 #[.int .i64 k] w fun e w' => e = .returned (.int .u64 (partsP k)) ∧ w = w' := by
 by_cases h1 : k = 1
 ·subst h1
  go_enter Tryz.func118, Tryz.ntmps118
  go_wp2_with fail
  go_ret
  exact ⟨rfl, rfl⟩
 by_cases h2 : k = 2
 ·subst h2
  go_enter Tryz.func118, Tryz.ntmps118
  go_wp2_with fail
  go_ret
  exact ⟨rfl, rfl⟩
 by_cases h3 : k = 3
 ·subst h3
  go_enter Tryz.func118, Tryz.ntmps118
  go_wp2_with fail
  go_ret
  exact ⟨rfl, rfl⟩
 by_cases h4 : k = 4
 ·subst h4
  go_enter Tryz.func118, Tryz.ntmps118
  go_wp2_with fail
  go_ret
  exact ⟨rfl, rfl⟩
 by_cases h5 : k = 5
 ·subst h5
  go_enter Tryz.func118, Tryz.ntmps118
  go_wp2_with fail
  go_ret
  exact ⟨rfl, rfl⟩
 have hp := Kp.mk (show partsP k = 0 by simp [partsP, h1, h2, h3, h4, h5])
 have e1 : (k == 1) = false := beq_eq_false_iff_ne.2 h1
 have e2 : (k == 2) = false := beq_eq_false_iff_ne.2 h2
 have e3 : (k == 3) = false := beq_eq_false_iff_ne.2 h3
 have e4 : (k == 4) = false := beq_eq_false_iff_ne.2 h4
 have e5 : (k == 5) = false := beq_eq_false_iff_ne.2 h5
 clear h1 h2 h3 h4 h5
 go_enter Tryz.func118, Tryz.ntmps118
 go_wp2_with fail
 rw [hp.out]
 go_ret
 exact ⟨rfl, rfl⟩
theorem has_1 : hasP 1 1 = false ∧ hasP 1 2 = true ∧ hasP 1 4 = true ∧ hasP 1 8 = true ∧ hasP 1 16 = true ∧ hasP 1 32 = true ∧ hasP 1 64 = true := by decide +kernel
theorem has_2 : hasP 10 1 = true ∧ hasP 10 2 = false ∧ hasP 10 4 = true ∧ hasP 10 8 = false ∧ hasP 10 16 = true ∧ hasP 10 32 = true ∧ hasP 10 64 = true := by decide +kernel
theorem has_3 : hasP 13 1 = false ∧ hasP 13 2 = true ∧ hasP 13 4 = false ∧ hasP 13 8 = false ∧ hasP 13 16 = true ∧ hasP 13 32 = true ∧ hasP 13 64 = true := by decide +kernel
theorem has_4 : hasP 39 1 = false ∧ hasP 39 2 = false ∧ hasP 39 4 = false ∧ hasP 39 8 = true ∧ hasP 39 16 = true ∧ hasP 39 32 = false ∧ hasP 39 64 = true := by decide +kernel
theorem has_5 : hasP 87 1 = false ∧ hasP 87 2 = false ∧ hasP 87 4 = false ∧ hasP 87 8 = true ∧ hasP 87 16 = false ∧ hasP 87 32 = true ∧ hasP 87 64 = false := by decide +kernel
theorem has_0 : hasP 0 1 = true ∧ hasP 0 2 = true := by decide +kernel
theorem okS_nine (k t f h p o s a : Int) (m : Nat) : okS k t f h p o s a m ↔
  (takeP (partsP k) 1 t 0 6 = true ∧ takeP (partsP k) 2 f 0 6 = true ∧ (t == 0) = !(f == 0) ∧ withinP h 0 12 = true ∧ takeP (partsP k) 4 p 1 4294967295 = true ∧ takeP (partsP k) 8 o 0 4294967295 = true ∧ takeP (partsP k) 16 s 0 65535 = true ∧ takeP (partsP k) 32 a 0 65535 = true ∧ takeP (partsP k) 64 m 1 256 = true) := by
 have hx : ((t == 0) = !(f == 0)) ↔ ((t = 0 ∧ f ≠ 0) ∨ (t ≠ 0 ∧ f = 0)) := by
  by_cases q1 : t = 0
  ·by_cases q2 : f = 0
   ·simp [q1, q2]
   ·rw [beq_eq_false_iff_ne.2 q2]; simp [q1, q2]
  ·rw [beq_eq_false_iff_ne.2 q1]
   by_cases q2 : f = 0
   ·simp [q1, q2]
   ·rw [beq_eq_false_iff_ne.2 q2]; simp [q1, q2]
 rw [hx]
 unfold okS wayS
 by_cases h1 : k = 1
 ·subst h1
  obtain ⟨a1, a2, a3, a4, a5, a6, a7⟩ := has_1
  simp [partsP, takeP, withinP, a1, a2, a3, a4, a5, a6, a7]
  omega
 by_cases h2 : k = 2
 ·subst h2
  obtain ⟨a1, a2, a3, a4, a5, a6, a7⟩ := has_2
  simp [partsP, takeP, withinP, a1, a2, a3, a4, a5, a6, a7]
  omega
 by_cases h3 : k = 3
 ·subst h3
  obtain ⟨a1, a2, a3, a4, a5, a6, a7⟩ := has_3
  simp [partsP, takeP, withinP, a1, a2, a3, a4, a5, a6, a7]
  omega
 by_cases h4 : k = 4
 ·subst h4
  obtain ⟨a1, a2, a3, a4, a5, a6, a7⟩ := has_4
  simp [partsP, takeP, withinP, a1, a2, a3, a4, a5, a6, a7]
  omega
 by_cases h5 : k = 5
 ·subst h5
  obtain ⟨a1, a2, a3, a4, a5, a6, a7⟩ := has_5
  simp [partsP, takeP, withinP, a1, a2, a3, a4, a5, a6, a7]
  omega
 obtain ⟨a1, a2⟩ := has_0
 simp [partsP, takeP, withinP, h1, h2, h3, h4, h5, a1, a2]
 omega
theorem checkS_any (k t f h p o s a : Int) (A : Option Addr) (n c : Nat) (w : World) : Calls Tryz.prog 75 #[.agg #[.int .i64 k, .int .i64 t, .int .i64 f, .int .i64 h, .int .i64 p, .int .i64 o, .int .i64 s, .int .i64 a, .slice A n c]] w fun e w' => e = .returned (.int .i64 (checkS k t f h p o s a n)) ∧ Below w.heap.size w w' := by
 have N := okS_nine k t f h p o s a n
 generalize hH : partsP k = H at *
 by_cases c1 : takeP H 1 t 0 6 = true
 rotate_left
 ·have hN : ¬ okS k t f h p o s a n := fun hh => c1 ((N.1 hh).1)
  have c1' : takeP H 1 t 0 6 = false := by simpa using c1
  clear c1
  have hp := Kp.mk (show checkS k t f h p o s a n = 2 by exact if_neg hN)
  clear hN
  clear N
  go_enter Tryz.func75, Tryz.ntmps75
  go_wp2_with (first | (go_at_call 118; refine (segPartsOf_any _ _).mono ?_; rintro e w' ⟨rfl, rfl⟩; simp only [hH]) | (go_at_call 119; refine (segTake_any _ _ _ _ _ _).mono ?_; rintro e w' ⟨rfl, rfl⟩; simp only [c1']) | (go_at_call 120; refine (within_any _ _ _ _).mono ?_; rintro e w' ⟨rfl, rfl⟩; simp only [c1']))
  rw [hp.out]
  go_ret
  exact ⟨rfl, (Below.refl _ _).alloc (Nat.le_refl _) _⟩
 by_cases c2 : takeP H 2 f 0 6 = true
 rotate_left
 ·have hN : ¬ okS k t f h p o s a n := fun hh => c2 ((N.1 hh).2.1)
  have c2' : takeP H 2 f 0 6 = false := by simpa using c2
  clear c2
  have hp := Kp.mk (show checkS k t f h p o s a n = 2 by exact if_neg hN)
  clear hN
  clear N
  go_enter Tryz.func75, Tryz.ntmps75
  go_wp2_with (first | (go_at_call 118; refine (segPartsOf_any _ _).mono ?_; rintro e w' ⟨rfl, rfl⟩; simp only [hH]) | (go_at_call 119; refine (segTake_any _ _ _ _ _ _).mono ?_; rintro e w' ⟨rfl, rfl⟩; simp only [c1, c2']) | (go_at_call 120; refine (within_any _ _ _ _).mono ?_; rintro e w' ⟨rfl, rfl⟩; simp only [c1, c2']))
  rw [hp.out]
  go_ret
  exact ⟨rfl, (Below.refl _ _).alloc (Nat.le_refl _) _⟩
 by_cases c3 : ((t == 0) = !(f == 0))
 rotate_left
 ·have hN : ¬ okS k t f h p o s a n := fun hh => c3 ((N.1 hh).2.2.1)
  have c3' : (t == 0) = (f == 0) := by revert c3; cases (t == 0) <;> cases (f == 0) <;> simp
  clear c3
  have hp := Kp.mk (show checkS k t f h p o s a n = 2 by exact if_neg hN)
  clear hN
  clear N
  go_enter Tryz.func75, Tryz.ntmps75
  go_wp2_with (first | (go_at_call 118; refine (segPartsOf_any _ _).mono ?_; rintro e w' ⟨rfl, rfl⟩; simp only [hH]) | (go_at_call 119; refine (segTake_any _ _ _ _ _ _).mono ?_; rintro e w' ⟨rfl, rfl⟩; simp only [c1, c2, c3']) | (go_at_call 120; refine (within_any _ _ _ _).mono ?_; rintro e w' ⟨rfl, rfl⟩; simp only [c1, c2, c3']))
  rw [hp.out]
  go_ret
  exact ⟨rfl, (Below.refl _ _).alloc (Nat.le_refl _) _⟩
 by_cases c4 : withinP h 0 12 = true
 rotate_left
 ·have hN : ¬ okS k t f h p o s a n := fun hh => c4 ((N.1 hh).2.2.2.1)
  have c4' : withinP h 0 12 = false := by simpa using c4
  clear c4
  have hp := Kp.mk (show checkS k t f h p o s a n = 2 by exact if_neg hN)
  clear hN
  clear N
  go_enter Tryz.func75, Tryz.ntmps75
  go_wp2_with (first | (go_at_call 118; refine (segPartsOf_any _ _).mono ?_; rintro e w' ⟨rfl, rfl⟩; simp only [hH]) | (go_at_call 119; refine (segTake_any _ _ _ _ _ _).mono ?_; rintro e w' ⟨rfl, rfl⟩; simp only [c1, c2, c3, c4']) | (go_at_call 120; refine (within_any _ _ _ _).mono ?_; rintro e w' ⟨rfl, rfl⟩; simp only [c1, c2, c3, c4']))
  rw [hp.out]
  go_ret
  exact ⟨rfl, (Below.refl _ _).alloc (Nat.le_refl _) _⟩
 by_cases c5 : takeP H 4 p 1 4294967295 = true
 rotate_left
 ·have hN : ¬ okS k t f h p o s a n := fun hh => c5 ((N.1 hh).2.2.2.2.1)
  have c5' : takeP H 4 p 1 4294967295 = false := by simpa using c5
  clear c5
  have hp := Kp.mk (show checkS k t f h p o s a n = 2 by exact if_neg hN)
  clear hN
  clear N
  go_enter Tryz.func75, Tryz.ntmps75
  go_wp2_with (first | (go_at_call 118; refine (segPartsOf_any _ _).mono ?_; rintro e w' ⟨rfl, rfl⟩; simp only [hH]) | (go_at_call 119; refine (segTake_any _ _ _ _ _ _).mono ?_; rintro e w' ⟨rfl, rfl⟩; simp only [c1, c2, c3, c4, c5']) | (go_at_call 120; refine (within_any _ _ _ _).mono ?_; rintro e w' ⟨rfl, rfl⟩; simp only [c1, c2, c3, c4, c5']))
  rw [hp.out]
  go_ret
  exact ⟨rfl, (Below.refl _ _).alloc (Nat.le_refl _) _⟩
 by_cases c6 : takeP H 8 o 0 4294967295 = true
 rotate_left
 ·have hN : ¬ okS k t f h p o s a n := fun hh => c6 ((N.1 hh).2.2.2.2.2.1)
  have c6' : takeP H 8 o 0 4294967295 = false := by simpa using c6
  clear c6
  have hp := Kp.mk (show checkS k t f h p o s a n = 2 by exact if_neg hN)
  clear hN
  clear N
  go_enter Tryz.func75, Tryz.ntmps75
  go_wp2_with (first | (go_at_call 118; refine (segPartsOf_any _ _).mono ?_; rintro e w' ⟨rfl, rfl⟩; simp only [hH]) | (go_at_call 119; refine (segTake_any _ _ _ _ _ _).mono ?_; rintro e w' ⟨rfl, rfl⟩; simp only [c1, c2, c3, c4, c5, c6']) | (go_at_call 120; refine (within_any _ _ _ _).mono ?_; rintro e w' ⟨rfl, rfl⟩; simp only [c1, c2, c3, c4, c5, c6']))
  rw [hp.out]
  go_ret
  exact ⟨rfl, (Below.refl _ _).alloc (Nat.le_refl _) _⟩
 by_cases c7 : takeP H 16 s 0 65535 = true
 rotate_left
 ·have hN : ¬ okS k t f h p o s a n := fun hh => c7 ((N.1 hh).2.2.2.2.2.2.1)
  have c7' : takeP H 16 s 0 65535 = false := by simpa using c7
  clear c7
  have hp := Kp.mk (show checkS k t f h p o s a n = 2 by exact if_neg hN)
  clear hN
  clear N
  go_enter Tryz.func75, Tryz.ntmps75
  go_wp2_with (first | (go_at_call 118; refine (segPartsOf_any _ _).mono ?_; rintro e w' ⟨rfl, rfl⟩; simp only [hH]) | (go_at_call 119; refine (segTake_any _ _ _ _ _ _).mono ?_; rintro e w' ⟨rfl, rfl⟩; simp only [c1, c2, c3, c4, c5, c6, c7']) | (go_at_call 120; refine (within_any _ _ _ _).mono ?_; rintro e w' ⟨rfl, rfl⟩; simp only [c1, c2, c3, c4, c5, c6, c7']))
  rw [hp.out]
  go_ret
  exact ⟨rfl, (Below.refl _ _).alloc (Nat.le_refl _) _⟩
 by_cases c8 : takeP H 32 a 0 65535 = true
 rotate_left
 ·have hN : ¬ okS k t f h p o s a n := fun hh => c8 ((N.1 hh).2.2.2.2.2.2.2.1)
  have c8' : takeP H 32 a 0 65535 = false := by simpa using c8
  clear c8
  have hp := Kp.mk (show checkS k t f h p o s a n = 2 by exact if_neg hN)
  clear hN
  clear N
  go_enter Tryz.func75, Tryz.ntmps75
  go_wp2_with (first | (go_at_call 118; refine (segPartsOf_any _ _).mono ?_; rintro e w' ⟨rfl, rfl⟩; simp only [hH]) | (go_at_call 119; refine (segTake_any _ _ _ _ _ _).mono ?_; rintro e w' ⟨rfl, rfl⟩; simp only [c1, c2, c3, c4, c5, c6, c7, c8']) | (go_at_call 120; refine (within_any _ _ _ _).mono ?_; rintro e w' ⟨rfl, rfl⟩; simp only [c1, c2, c3, c4, c5, c6, c7, c8']))
  rw [hp.out]
  go_ret
  exact ⟨rfl, (Below.refl _ _).alloc (Nat.le_refl _) _⟩
 by_cases c9 : takeP H 64 n 1 256 = true
 rotate_left
 ·have hN : ¬ okS k t f h p o s a n := fun hh => c9 ((N.1 hh).2.2.2.2.2.2.2.2)
  have c9' : takeP H 64 n 1 256 = false := by simpa using c9
  clear c9
  have hp := Kp.mk (show checkS k t f h p o s a n = 2 by exact if_neg hN)
  clear hN
  clear N
  go_enter Tryz.func75, Tryz.ntmps75
  go_wp2_with (first | (go_at_call 118; refine (segPartsOf_any _ _).mono ?_; rintro e w' ⟨rfl, rfl⟩; simp only [hH]) | (go_at_call 119; refine (segTake_any _ _ _ _ _ _).mono ?_; rintro e w' ⟨rfl, rfl⟩; simp only [c1, c2, c3, c4, c5, c6, c7, c8, c9']) | (go_at_call 120; refine (within_any _ _ _ _).mono ?_; rintro e w' ⟨rfl, rfl⟩; simp only [c1, c2, c3, c4, c5, c6, c7, c8, c9']))
  rw [hp.out]
  go_ret
  exact ⟨rfl, (Below.refl _ _).alloc (Nat.le_refl _) _⟩
 have hN : okS k t f h p o s a n := N.2 ⟨c1, c2, c3, c4, c5, c6, c7, c8, c9⟩
 have hp := Kp.mk (show checkS k t f h p o s a n = 0 by exact if_pos hN)
 clear hN
 clear N
 go_enter Tryz.func75, Tryz.ntmps75
 go_wp2_with (first | (go_at_call 118; refine (segPartsOf_any _ _).mono ?_; rintro e w' ⟨rfl, rfl⟩; simp only [hH]) | (go_at_call 119; refine (segTake_any _ _ _ _ _ _).mono ?_; rintro e w' ⟨rfl, rfl⟩; simp only [c1, c2, c3, c4, c5, c6, c7, c8, c9]) | (go_at_call 120; refine (within_any _ _ _ _).mono ?_; rintro e w' ⟨rfl, rfl⟩; simp only [c1, c2, c3, c4, c5, c6, c7, c8, c9]))
 rw [hp.out]
 go_ret
 exact ⟨rfl, (Below.refl _ _).alloc (Nat.le_refl _) _⟩
end Go.Proofs.YtnoflfbcgbhipaaGreat.Oct
