/- Contracts of layer 5: whether two segments are the same. -/
import Derived.Test.YtbniefgfiafaoaaSegA
import Derived.ChangeKeysEq
import Derived.Test.YtbniefgfiafaoaaRgn
import Derived.Deep.Cut
namespace Go.Proofs.Ytbniefgfiafaoaa.Oct
open Go.RowKit
set_option linter.unusedVariables false
set_option linter.unusedSimpArgs false

theorem numbers_any (k t f h p o s a : Int) (A : Option Addr) (n c : Nat) (w : World) :
    Calls Try.prog 39 #[.agg #[.int .i64 k, .int .i64 t, .int .i64 f, .int .i64 h, .int .i64 p, .int .i64 o, .int .i64 s, .int .i64 a, .slice A n c]] w fun e w' => e = .returned (.agg #[.int .i64 k, .int .i64 t, .int .i64 f, .int .i64 h, .int .i64 p, .int .i64 o, .int .i64 s, .int .i64 a]) ∧ Below w.heap.size w w' := by
  go_enter Try.func39, Try.ntmps39
  go_wp2_with fail
  refine bodyPost_ret (v := .agg #[.int .i64 k, .int .i64 t, .int .i64 f, .int .i64 h, .int .i64 p, .int .i64 o, .int .i64 s, .int .i64 a]) (by simp [results, Try.results39, go_sem]) rfl ?_
  exact ⟨rfl, below_two w _ _⟩
theorem bytesEqual_any {w : World} {B1 B2 : Nat} {A1 A2 : Option Addr} {n1 c1 n2 c2 : Nat} {l1 l2 : List Int} (h1 : Rd .u8 w B1 A1 n1 c1 l1) (h2 : Rd .u8 w B2 A2 n2 c2 l2) (b1 : By l1) (b2 : By l2) :
    Calls Try.prog 40 #[.slice A1 n1 c1, .slice A2 n2 c2] w fun e w' => e = .returned (.bool (decide (l1 = l2))) ∧ w = w' := by
  have k1 := run_string h1
  have k2 := run_string h2
  go_enter Try.func40, Try.ntmps40
  go_wp2_with fail
  go_ret
  exact ⟨ret_bool (str_beq b1 b2), rfl⟩
/-- Whether the eight numbers are the same. -/
def eight (k t f h p o s a k' t' f' h' p' o' s' a' : Int) : Bool := k == k' && (t == t' && (f == f' && (h == h' && (p == p' && (o == o' && (s == s' && a == a'))))))
theorem eq_eight (k t f h p o s a k' t' f' h' p' o' s' a' : Int) (w : World) :
    (Op.equalIn 10000 59 (.agg #[.int .i64 k, .int .i64 t, .int .i64 f, .int .i64 h, .int .i64 p, .int .i64 o, .int .i64 s, .int .i64 a]) (.agg #[.int .i64 k', .int .i64 t', .int .i64 f', .int .i64 h', .int .i64 p', .int .i64 o', .int .i64 s', .int .i64 a'])).run Try.prog w = .ok (eight k t f h p o s a k' t' f' h' p' o' s' a') w := by
  have hi0 : (Try.prog.info? 3).map (fun i => (i.zero, i.size, i.bytes)) = some (some (.int .i64 0), 1, 8) := by kernel_rfl
  obtain ⟨i0, hi, hz0, hz1, hz2⟩ := info_parts hi0
  have hc : Try.prog.cellsOf 3 = 1 := by kernel_rfl
  have hp : Try.prog.plainKey 3 = true := by kernel_rfl
  have hq : ∀ (p q : Int), (Op.equalIn 9999 3 (.int .i64 p) (.int .i64 q)).run Try.prog w = .ok (p == q) w := fun p q => run_equalIn_int w 9998 _ _ _ p q Try.underlying3
  rw [show (10000 : Nat) = 9999 + 1 from rfl, run_equalIn_array w 9999 _ _ Try.underlying59 hi, hc, show List.range 8 = [0, 1, 2, 3, 4, 5, 6, 7] from rfl]
  have p0 : ∀ (x0 x1 x2 x3 x4 x5 x6 x7 : Value), (part 3 #[x0, x1, x2, x3, x4, x5, x6, x7] 0).run Try.prog w = .ok x0 w := fun _ _ _ _ _ _ _ _ => run_part_plain w hp rfl
  have p1 : ∀ (x0 x1 x2 x3 x4 x5 x6 x7 : Value), (part 3 #[x0, x1, x2, x3, x4, x5, x6, x7] 1).run Try.prog w = .ok x1 w := fun _ _ _ _ _ _ _ _ => run_part_plain w hp rfl
  have p2 : ∀ (x0 x1 x2 x3 x4 x5 x6 x7 : Value), (part 3 #[x0, x1, x2, x3, x4, x5, x6, x7] 2).run Try.prog w = .ok x2 w := fun _ _ _ _ _ _ _ _ => run_part_plain w hp rfl
  have p3 : ∀ (x0 x1 x2 x3 x4 x5 x6 x7 : Value), (part 3 #[x0, x1, x2, x3, x4, x5, x6, x7] 3).run Try.prog w = .ok x3 w := fun _ _ _ _ _ _ _ _ => run_part_plain w hp rfl
  have p4 : ∀ (x0 x1 x2 x3 x4 x5 x6 x7 : Value), (part 3 #[x0, x1, x2, x3, x4, x5, x6, x7] 4).run Try.prog w = .ok x4 w := fun _ _ _ _ _ _ _ _ => run_part_plain w hp rfl
  have p5 : ∀ (x0 x1 x2 x3 x4 x5 x6 x7 : Value), (part 3 #[x0, x1, x2, x3, x4, x5, x6, x7] 5).run Try.prog w = .ok x5 w := fun _ _ _ _ _ _ _ _ => run_part_plain w hp rfl
  have p6 : ∀ (x0 x1 x2 x3 x4 x5 x6 x7 : Value), (part 3 #[x0, x1, x2, x3, x4, x5, x6, x7] 6).run Try.prog w = .ok x6 w := fun _ _ _ _ _ _ _ _ => run_part_plain w hp rfl
  have p7 : ∀ (x0 x1 x2 x3 x4 x5 x6 x7 : Value), (part 3 #[x0, x1, x2, x3, x4, x5, x6, x7] 7).run Try.prog w = .ok x7 w := fun _ _ _ _ _ _ _ _ => run_part_plain w hp rfl
  unfold eight
  by_cases e0 : k == k'
  rotate_left
  · simp [Op.eqItems, p0, hq, e0]
  by_cases e1 : t == t'
  rotate_left
  · simp [Op.eqItems, p0, p1, hq, e0, e1]
  by_cases e2 : f == f'
  rotate_left
  · simp [Op.eqItems, p0, p1, p2, hq, e0, e1, e2]
  by_cases e3 : h == h'
  rotate_left
  · simp [Op.eqItems, p0, p1, p2, p3, hq, e0, e1, e2, e3]
  by_cases e4 : p == p'
  rotate_left
  · simp [Op.eqItems, p0, p1, p2, p3, p4, hq, e0, e1, e2, e3, e4]
  by_cases e5 : o == o'
  rotate_left
  · simp [Op.eqItems, p0, p1, p2, p3, p4, p5, hq, e0, e1, e2, e3, e4, e5]
  by_cases e6 : s == s'
  rotate_left
  · simp [Op.eqItems, p0, p1, p2, p3, p4, p5, p6, hq, e0, e1, e2, e3, e4, e5, e6]
  by_cases e7 : a == a'
  rotate_left
  · simp [Op.eqItems, p0, p1, p2, p3, p4, p5, p6, p7, hq, e0, e1, e2, e3, e4, e5, e6, e7]
  simp [Op.eqItems, p0, p1, p2, p3, p4, p5, p6, p7, hq, e0, e1, e2, e3, e4, e5, e6, e7]

/-- Whether two segments are the same. -/
def sameS (k t f h p o s a : Int) (l : List Int) (k' t' f' h' p' o' s' a' : Int) (l' : List Int) : Bool := eight k t f h p o s a k' t' f' h' p' o' s' a' && decide (l = l')
theorem sameS_iff {k t f h p o s a : Int} {l : List Int} {k' t' f' h' p' o' s' a' : Int} {l' : List Int} : sameS k t f h p o s a l k' t' f' h' p' o' s' a' l' = true ↔ (k = k' ∧ t = t' ∧ f = f' ∧ h = h' ∧ p = p' ∧ o = o' ∧ s = s' ∧ a = a' ∧ l = l') := by
  unfold sameS eight
  simp only [Bool.and_eq_true, beq_iff_eq, decide_eq_true_eq, and_assoc]
theorem sameS_self (k t f h p o s a : Int) (l : List Int) : sameS k t f h p o s a l k t f h p o s a l = true := sameS_iff.2 ⟨rfl, rfl, rfl, rfl, rfl, rfl, rfl, rfl, rfl⟩
/-- Two segments lie in blocks, and nothing else has turned. -/
def Two (w0 : World) (g1 g2 : Nat) (v1 : List Int) (m1 : Value) (v2 : List Int) (m2 : Value) (w' : World) : Prop := (Sg w' g1 v1 m1 ∧ Sg w' g2 v2 m2) ∧ Below w0.heap.size w0 w'
theorem Two.step {w0 : World} {g1 g2 : Nat} {v1 : List Int} {m1 : Value} {v2 : List Int} {m2 : Value} {wx w1 : World} (hs : Two w0 g1 g2 v1 m1 v2 m2 wx) (hb : Below wx.heap.size wx w1) : Two w0 g1 g2 v1 m1 v2 m2 w1 :=
  ⟨⟨hs.1.1.below hb hs.1.1.lt, hs.1.2.below hb hs.1.2.lt⟩, hs.2.trans (hb.mono hs.2.size)⟩
section
variable {k t f h p o s a k' t' f' h' p' o' s' a' : Int} {A A' : Option Addr} {n c n' c' B B' : Nat} {l l' : List Int} {w : World}
set_option maxRecDepth 100000 in
set_option maxHeartbeats 4000000 in
theorem refSame_any (hr : Rd .u8 w B A n c l) (hr' : Rd .u8 w B' A' n' c' l') (hB : B ≤ w.heap.size) (hB' : B' ≤ w.heap.size) (hl : By l) (hl' : By l') :
    Calls Try.prog 19 #[.agg #[.int .i64 k, .int .i64 t, .int .i64 f, .int .i64 h, .int .i64 p, .int .i64 o, .int .i64 s, .int .i64 a, .slice A n c], .agg #[.int .i64 k', .int .i64 t', .int .i64 f', .int .i64 h', .int .i64 p', .int .i64 o', .int .i64 s', .int .i64 a', .slice A' n' c']] w fun e w' => e = .returned (.bool (sameS k t f h p o s a l k' t' f' h' p' o' s' a' l')) ∧ Below w.heap.size w w' := by
  have hb := below_two w (.cells #[.int .i64 k, .int .i64 t, .int .i64 f, .int .i64 h, .int .i64 p, .int .i64 o, .int .i64 s, .int .i64 a, .slice A n c] 24) (.cells #[.int .i64 k', .int .i64 t', .int .i64 f', .int .i64 h', .int .i64 p', .int .i64 o', .int .i64 s', .int .i64 a', .slice A' n' c'] 24)
  have r1 := Kp.mk (hr.below' hb hB)
  have r2 := Kp.mk (hr'.below' hb hB')
  have heq := Kp.mk (show sameS k t f h p o s a l k' t' f' h' p' o' s' a' l' = (eight k t f h p o s a k' t' f' h' p' o' s' a' && decide (l = l')) from rfl)
  clear hr hr'
  by_cases e0 : (k == k') = true
  rotate_left
  · have e0' : (k == k') = false := by simpa using e0
    have hp := Kp.mk (show sameS k t f h p o s a l k' t' f' h' p' o' s' a' l' = false by rw [heq.out]; unfold eight; rw [e0']; simp)
    clear e0 heq
    go_enter Try.func19, Try.ntmps19
    go_wp2_with fail
    rw [hp.out]
    go_ret
    exact ⟨rfl, hb⟩
  by_cases e1 : (t == t') = true
  rotate_left
  · have e1' : (t == t') = false := by simpa using e1
    have hp := Kp.mk (show sameS k t f h p o s a l k' t' f' h' p' o' s' a' l' = false by rw [heq.out]; unfold eight; rw [e0, e1']; simp)
    clear e1 heq
    go_enter Try.func19, Try.ntmps19
    go_wp2_with fail
    rw [hp.out]
    go_ret
    exact ⟨rfl, hb⟩
  by_cases e2 : (f == f') = true
  rotate_left
  · have e2' : (f == f') = false := by simpa using e2
    have hp := Kp.mk (show sameS k t f h p o s a l k' t' f' h' p' o' s' a' l' = false by rw [heq.out]; unfold eight; rw [e0, e1, e2']; simp)
    clear e2 heq
    go_enter Try.func19, Try.ntmps19
    go_wp2_with fail
    rw [hp.out]
    go_ret
    exact ⟨rfl, hb⟩
  by_cases e3 : (h == h') = true
  rotate_left
  · have e3' : (h == h') = false := by simpa using e3
    have hp := Kp.mk (show sameS k t f h p o s a l k' t' f' h' p' o' s' a' l' = false by rw [heq.out]; unfold eight; rw [e0, e1, e2, e3']; simp)
    clear e3 heq
    go_enter Try.func19, Try.ntmps19
    go_wp2_with fail
    rw [hp.out]
    go_ret
    exact ⟨rfl, hb⟩
  by_cases e4 : (p == p') = true
  rotate_left
  · have e4' : (p == p') = false := by simpa using e4
    have hp := Kp.mk (show sameS k t f h p o s a l k' t' f' h' p' o' s' a' l' = false by rw [heq.out]; unfold eight; rw [e0, e1, e2, e3, e4']; simp)
    clear e4 heq
    go_enter Try.func19, Try.ntmps19
    go_wp2_with fail
    rw [hp.out]
    go_ret
    exact ⟨rfl, hb⟩
  by_cases e5 : (o == o') = true
  rotate_left
  · have e5' : (o == o') = false := by simpa using e5
    have hp := Kp.mk (show sameS k t f h p o s a l k' t' f' h' p' o' s' a' l' = false by rw [heq.out]; unfold eight; rw [e0, e1, e2, e3, e4, e5']; simp)
    clear e5 heq
    go_enter Try.func19, Try.ntmps19
    go_wp2_with fail
    rw [hp.out]
    go_ret
    exact ⟨rfl, hb⟩
  by_cases e6 : (s == s') = true
  rotate_left
  · have e6' : (s == s') = false := by simpa using e6
    have hp := Kp.mk (show sameS k t f h p o s a l k' t' f' h' p' o' s' a' l' = false by rw [heq.out]; unfold eight; rw [e0, e1, e2, e3, e4, e5, e6']; simp)
    clear e6 heq
    go_enter Try.func19, Try.ntmps19
    go_wp2_with fail
    rw [hp.out]
    go_ret
    exact ⟨rfl, hb⟩
  by_cases e7 : (a == a') = true
  rotate_left
  · have e7' : (a == a') = false := by simpa using e7
    have hp := Kp.mk (show sameS k t f h p o s a l k' t' f' h' p' o' s' a' l' = false by rw [heq.out]; unfold eight; rw [e0, e1, e2, e3, e4, e5, e6, e7']; simp)
    clear e7 heq
    go_enter Try.func19, Try.ntmps19
    go_wp2_with fail
    rw [hp.out]
    go_ret
    exact ⟨rfl, hb⟩
  have hp := Kp.mk (show sameS k t f h p o s a l k' t' f' h' p' o' s' a' l' = decide (l = l') by rw [heq.out]; unfold eight; rw [e0, e1, e2, e3, e4, e5, e6, e7]; simp)
  clear heq
  go_enter Try.func19, Try.ntmps19
  go_wp2_with fail
  refine (eqBytes_any r1.out r2.out hl hl').mono ?_
  rintro e w' ⟨rfl, rfl⟩
  go_wp2_with fail
  rw [hp.out]
  go_ret
  exact ⟨rfl, hb⟩

set_option maxRecDepth 100000 in
set_option maxHeartbeats 8000000 in
theorem sameS_any (hr : Rd .u8 w B A n c l) (hr' : Rd .u8 w B' A' n' c' l') (hB : B ≤ w.heap.size) (hB' : B' ≤ w.heap.size) (hl : By l) (hl' : By l') :
    Calls Try.prog 20 #[.agg #[.int .i64 k, .int .i64 t, .int .i64 f, .int .i64 h, .int .i64 p, .int .i64 o, .int .i64 s, .int .i64 a, .slice A n c], .agg #[.int .i64 k', .int .i64 t', .int .i64 f', .int .i64 h', .int .i64 p', .int .i64 o', .int .i64 s', .int .i64 a', .slice A' n' c']] w fun e w' => e = .returned (.bool (sameS k t f h p o s a l k' t' f' h' p' o' s' a' l')) ∧ Below w.heap.size w w' := by
  have hb := below_two w (.cells #[.int .i64 k, .int .i64 t, .int .i64 f, .int .i64 h, .int .i64 p, .int .i64 o, .int .i64 s, .int .i64 a, .slice A n c] 24) (.cells #[.int .i64 k', .int .i64 t', .int .i64 f', .int .i64 h', .int .i64 p', .int .i64 o', .int .i64 s', .int .i64 a', .slice A' n' c'] 24)
  have r1 := hr.below' hb hB
  have r2 := hr'.below' hb hB'
  have hx1 : Sg ((w.alloc (.cells #[.int .i64 k, .int .i64 t, .int .i64 f, .int .i64 h, .int .i64 p, .int .i64 o, .int .i64 s, .int .i64 a, .slice A n c] 24)).alloc (.cells #[.int .i64 k', .int .i64 t', .int .i64 f', .int .i64 h', .int .i64 p', .int .i64 o', .int .i64 s', .int .i64 a', .slice A' n' c'] 24)) w.heap.size [k, t, f, h, p, o, s, a] (.slice A n c) := (Sg.new w [k, t, f, h, p, o, s, a] (.slice A n c)).alloc _
  have hx2 : Sg ((w.alloc (.cells #[.int .i64 k, .int .i64 t, .int .i64 f, .int .i64 h, .int .i64 p, .int .i64 o, .int .i64 s, .int .i64 a, .slice A n c] 24)).alloc (.cells #[.int .i64 k', .int .i64 t', .int .i64 f', .int .i64 h', .int .i64 p', .int .i64 o', .int .i64 s', .int .i64 a', .slice A' n' c'] 24)) (w.alloc (.cells #[.int .i64 k, .int .i64 t, .int .i64 f, .int .i64 h, .int .i64 p, .int .i64 o, .int .i64 s, .int .i64 a, .slice A n c] 24)).heap.size [k', t', f', h', p', o', s', a'] (.slice A' n' c') := Sg.new (w.alloc (.cells #[.int .i64 k, .int .i64 t, .int .i64 f, .int .i64 h, .int .i64 p, .int .i64 o, .int .i64 s, .int .i64 a, .slice A n c] 24)) [k', t', f', h', p', o', s', a'] (.slice A' n' c')
  rw [alloc_size] at hx2
  have hz0 : ((w.alloc (.cells #[.int .i64 k, .int .i64 t, .int .i64 f, .int .i64 h, .int .i64 p, .int .i64 o, .int .i64 s, .int .i64 a, .slice A n c] 24)).alloc (.cells #[.int .i64 k', .int .i64 t', .int .i64 f', .int .i64 h', .int .i64 p', .int .i64 o', .int .i64 s', .int .i64 a', .slice A' n' c'] 24)).heap.size = w.heap.size + 2 := by simp
  have hE := eq_eight k t f h p o s a k' t' f' h' p' o' s' a'
  have heq := Kp.mk (show sameS k t f h p o s a l k' t' f' h' p' o' s' a' l' = (eight k t f h p o s a k' t' f' h' p' o' s' a' && decide (l = l')) from rfl)
  clear hr hr'
  go_enter Try.func20, Try.ntmps20
  go_upto_region 1 with fail
  generalize ((w.alloc (.cells #[.int .i64 k, .int .i64 t, .int .i64 f, .int .i64 h, .int .i64 p, .int .i64 o, .int .i64 s, .int .i64 a, .slice A n c] 24)).alloc (.cells #[.int .i64 k', .int .i64 t', .int .i64 f', .int .i64 h', .int .i64 p', .int .i64 o', .int .i64 s', .int .i64 a', .slice A' n' c'] 24)) = w0 at *
  have R1 := Kp.mk (r1.more hB)
  have R2 := Kp.mk (r2.more hB')
  have hS : Two w0 w.heap.size (w.heap.size + 1) [k, t, f, h, p, o, s, a] (.slice A n c) [k', t', f', h', p', o', s', a'] (.slice A' n' c') w0.drew := ⟨⟨hx1, hx2⟩, (Below.refl w0.heap.size w0).drew⟩
  clear hx1 hx2 r1 r2
  generalize eight k t f h p o s a k' t' f' h' p' o' s' a' = b8 at *
  have hw0 : w.heap.size ≤ w0.heap.size := by omega
  refine wp_region_held_drew (S := Two w0 w.heap.size (w.heap.size + 1) [k, t, f, h, p, o, s, a] (.slice A n c) [k', t', f', h', p', o', s', a'] (.slice A' n' c')) (by kernel_rfl) hS (fun _ => ?_)
  refine takeD (i := 0) (v := .agg #[.int .i64 k, .int .i64 t, .int .i64 f, .int .i64 h, .int .i64 p, .int .i64 o, .int .i64 s, .int .i64 a, .slice A n c]) (some 5) rfl rfl (by kernel_rfl) (by kernel_rfl) (by kernel_rfl) (fun _ _ _ h => h) (Or.inl ⟨by rfl, ?_⟩) hS ?_
  · rintro w' ⟨⟨s1, s2⟩, s3⟩
    obtain ⟨d0, d1, d2, d3, d4, d5, d6, d7, d8⟩ := s1.nine
    go_simp
  try simp only [Act.put, List.setIfInBounds_toArray, List.set_cons_zero, List.set_cons_succ]
  refine takeD (i := 2) (v := .agg #[.int .i64 k', .int .i64 t', .int .i64 f', .int .i64 h', .int .i64 p', .int .i64 o', .int .i64 s', .int .i64 a', .slice A' n' c']) (some 7) rfl rfl (by kernel_rfl) (by kernel_rfl) (by kernel_rfl) (fun _ _ _ h => h) (Or.inl ⟨by rfl, ?_⟩) hS ?_
  · rintro w' ⟨⟨s1, s2⟩, s3⟩
    obtain ⟨d0, d1, d2, d3, d4, d5, d6, d7, d8⟩ := s2.nine
    go_simp
  try simp only [Act.put, List.setIfInBounds_toArray, List.set_cons_zero, List.set_cons_succ]
  refine wpAnyH_ready (rs := [1]) (by kernel_rfl) (by simp) ?_
  refine AllReadyH.cons rfl (fun K hK => ?_) AllReadyH.nil
  go_simp
  go_at_call 39
  refine (numbers_any _ _ _ _ _ _ _ _ _ _ _ _).mono ?_
  rintro e w1 ⟨rfl, hb1⟩
  refine hK.out _ _ (hS.step hb1) (fun hS1 => ?_)
  clear hK K
  try simp only [Act.put, List.setIfInBounds_toArray, List.set_cons_zero, List.set_cons_succ]
  refine wpAnyH_ready (rs := [3]) (by kernel_rfl) (by simp) ?_
  refine AllReadyH.cons rfl (fun K hK => ?_) AllReadyH.nil
  go_simp
  go_at_call 39
  refine (numbers_any _ _ _ _ _ _ _ _ _ _ _ _).mono ?_
  rintro e w2 ⟨rfl, hb2⟩
  refine hK.out _ _ (hS1.step hb2) (fun hS2 => ?_)
  clear hK K
  try simp only [Act.put, List.setIfInBounds_toArray, List.set_cons_zero, List.set_cons_succ]
  clear hS hS1 hb1 hb2
  refine takeD (i := 4) (v := .bool b8) (some 9) rfl rfl (by kernel_rfl) (by kernel_rfl) (by kernel_rfl) (fun _ _ _ h => h) (Or.inl ⟨by rfl, ?_⟩) hS2 ?_
  · rintro w' _
    go_simp
  try simp only [Act.put, List.setIfInBounds_toArray, List.set_cons_zero, List.set_cons_succ]
  refine takeD (i := 5) (v := .bool b8) (some 10) rfl rfl (by kernel_rfl) (by kernel_rfl) (by kernel_rfl) (fun _ _ _ h => h) (Or.inl ⟨by rfl, ?_⟩) hS2 ?_
  · rintro w' _
    go_simp
  try simp only [Act.put, List.setIfInBounds_toArray, List.set_cons_zero, List.set_cons_succ]
  cases b8
  · skip
    refine takeD (i := 6) (v := undef) (some 11) rfl rfl (by kernel_rfl) (by kernel_rfl) (by kernel_rfl) (fun _ _ _ h => h) (Or.inr ⟨by rfl, rfl⟩) hS2 ?_
    try simp only [Act.put, List.setIfInBounds_toArray, List.set_cons_zero, List.set_cons_succ]
    refine takeD (i := 7) (v := undef) (some 12) rfl rfl (by kernel_rfl) (by kernel_rfl) (by kernel_rfl) (fun _ _ _ h => h) (Or.inr ⟨by rfl, rfl⟩) hS2 ?_
    try simp only [Act.put, List.setIfInBounds_toArray, List.set_cons_zero, List.set_cons_succ]
    refine takeD (i := 8) (v := undef) (some 13) rfl rfl (by kernel_rfl) (by kernel_rfl) (by kernel_rfl) (fun _ _ _ h => h) (Or.inr ⟨by rfl, rfl⟩) hS2 ?_
    try simp only [Act.put, List.setIfInBounds_toArray, List.set_cons_zero, List.set_cons_succ]
    refine takeD (i := 9) (v := undef) (some 14) rfl rfl (by kernel_rfl) (by kernel_rfl) (by kernel_rfl) (fun _ _ _ h => h) (Or.inr ⟨by rfl, rfl⟩) hS2 ?_
    try simp only [Act.put, List.setIfInBounds_toArray, List.set_cons_zero, List.set_cons_succ]
    refine takeD (i := 10) (v := undef) (some 15) rfl rfl (by kernel_rfl) (by kernel_rfl) (by kernel_rfl) (fun _ _ _ h => h) (Or.inr ⟨by rfl, rfl⟩) hS2 ?_
    try simp only [Act.put, List.setIfInBounds_toArray, List.set_cons_zero, List.set_cons_succ]
    refine takeD (i := 11) (v := .bool false) (some 16) rfl rfl (by kernel_rfl) (by kernel_rfl) (by kernel_rfl) (fun _ _ _ h => h) (Or.inl ⟨by rfl, ?_⟩) hS2 ?_
    · rintro w' _
      go_simp
    try simp only [Act.put, List.setIfInBounds_toArray, List.set_cons_zero, List.set_cons_succ]
    refine takeD (i := 12) (v := .bool false) (some 4) rfl rfl (by kernel_rfl) (by kernel_rfl) (by kernel_rfl) (fun _ _ _ h => h) (Or.inl ⟨by rfl, ?_⟩) hS2 ?_
    · rintro w' _
      go_simp
    try simp only [Act.put, List.setIfInBounds_toArray, List.set_cons_zero, List.set_cons_succ]
    refine wpAnyH_done (by kernel_rfl) ?_ _
    go_wp2_with fail
    go_ret
    exact ⟨by rw [heq.out]; rfl, hb.trans (hS2.2.mono hw0)⟩
  · skip
    refine takeD (i := 6) (v := (.pointer (some ⟨w.heap.size, 8, none⟩))) (some 11) rfl rfl (by kernel_rfl) (by kernel_rfl) (by kernel_rfl) (fun _ _ _ h => h) (Or.inl ⟨by rfl, ?_⟩) hS2 ?_
    · rintro w' _
      go_simp
    try simp only [Act.put, List.setIfInBounds_toArray, List.set_cons_zero, List.set_cons_succ]
    refine takeD (i := 7) (v := .slice A n c) (some 12) rfl rfl (by kernel_rfl) (by kernel_rfl) (by kernel_rfl) (fun _ _ _ h => h) (Or.inl ⟨by rfl, ?_⟩) hS2 ?_
    · rintro w' ⟨⟨s1, s2⟩, s3⟩
      obtain ⟨d0, d1, d2, d3, d4, d5, d6, d7, d8⟩ := s1.nine
      go_simp
    try simp only [Act.put, List.setIfInBounds_toArray, List.set_cons_zero, List.set_cons_succ]
    refine takeD (i := 8) (v := (.pointer (some ⟨w.heap.size + 1, 8, none⟩))) (some 13) rfl rfl (by kernel_rfl) (by kernel_rfl) (by kernel_rfl) (fun _ _ _ h => h) (Or.inl ⟨by rfl, ?_⟩) hS2 ?_
    · rintro w' _
      go_simp
    try simp only [Act.put, List.setIfInBounds_toArray, List.set_cons_zero, List.set_cons_succ]
    refine takeD (i := 9) (v := (.slice A' n' c')) (some 14) rfl rfl (by kernel_rfl) (by kernel_rfl) (by kernel_rfl) (fun _ _ _ h => h) (Or.inl ⟨by rfl, ?_⟩) hS2 ?_
    · rintro w' ⟨⟨s1, s2⟩, s3⟩
      obtain ⟨d0, d1, d2, d3, d4, d5, d6, d7, d8⟩ := s2.nine
      go_simp
    try simp only [Act.put, List.setIfInBounds_toArray, List.set_cons_zero, List.set_cons_succ]
    refine wpAnyH_ready (rs := [10]) (by kernel_rfl) (by simp) ?_
    refine AllReadyH.cons rfl (fun K hK => ?_) AllReadyH.nil
    go_simp
    go_at_call 40
    refine (bytesEqual_any (R1.out.below' hS2.2 hw0) (R2.out.below' hS2.2 hw0) hl hl').mono ?_
    rintro e w' ⟨rfl, rfl⟩
    refine hK.out _ _ (hS2) (fun _ => ?_)
    clear hK K
    try simp only [Act.put, List.setIfInBounds_toArray, List.set_cons_zero, List.set_cons_succ]
    refine takeD (i := 11) (v := (.bool (decide (l = l')))) (some 16) rfl rfl (by kernel_rfl) (by kernel_rfl) (by kernel_rfl) (fun _ _ _ h => h) (Or.inl ⟨by rfl, ?_⟩) hS2 ?_
    · rintro w' _
      go_simp
    try simp only [Act.put, List.setIfInBounds_toArray, List.set_cons_zero, List.set_cons_succ]
    refine takeD (i := 12) (v := (.bool (decide (l = l')))) (some 4) rfl rfl (by kernel_rfl) (by kernel_rfl) (by kernel_rfl) (fun _ _ _ h => h) (Or.inl ⟨by rfl, ?_⟩) hS2 ?_
    · rintro w' _
      go_simp
    try simp only [Act.put, List.setIfInBounds_toArray, List.set_cons_zero, List.set_cons_succ]
    refine wpAnyH_done (by kernel_rfl) ?_ _
    go_wp2_with fail
    go_ret
    exact ⟨by rw [heq.out]; rfl, hb.trans (hS2.2.mono hw0)⟩
end
end Go.Proofs.Ytbniefgfiafaoaa.Oct
