/- Contracts of layer 5: whether two segments are the same. -/
import Derived.Test.YtomjnpjabfnlbaaSegA
import Derived.Test.YtomjnpjabfnlbaaOctC
import Derived.ChangeKeysEq
import Derived.Deep.Cut
namespace Go.Proofs.Ytomjnpjabfnlbaa.Oct
open Go.RowKit
set_option linter.unusedVariables false
set_option linter.unusedSimpArgs false

/-- Whether the eight numbers are the same. -/
def eight (k t f h p o s a k' t' f' h' p' o' s' a' : Int) : Bool := k == k' && (t == t' && (f == f' && (h == h' && (p == p' && (o == o' && (s == s' && a == a'))))))
/-- Whether two segments are the same. -/
def sameS (k t f h p o s a : Int) (l : List Int) (k' t' f' h' p' o' s' a' : Int) (l' : List Int) : Bool := eight k t f h p o s a k' t' f' h' p' o' s' a' && decide (l = l')
theorem sameS_iff {k t f h p o s a : Int} {l : List Int} {k' t' f' h' p' o' s' a' : Int} {l' : List Int} : sameS k t f h p o s a l k' t' f' h' p' o' s' a' l' = true ↔ (k = k' ∧ t = t' ∧ f = f' ∧ h = h' ∧ p = p' ∧ o = o' ∧ s = s' ∧ a = a' ∧ l = l') := by
  unfold sameS eight
  simp only [Bool.and_eq_true, beq_iff_eq, decide_eq_true_eq, and_assoc]
theorem sameS_self (k t f h p o s a : Int) (l : List Int) : sameS k t f h p o s a l k t f h p o s a l = true := sameS_iff.2 ⟨rfl, rfl, rfl, rfl, rfl, rfl, rfl, rfl, rfl⟩
/-- Two segments lie in blocks, and nothing else has turned. -/
def Two (w0 : World) (g1 g2 : Nat) (v1 : List Int) (m1 : Value) (v2 : List Int) (m2 : Value) (w' : World) : Prop := (Sg w' g1 v1 m1 ∧ Sg w' g2 v2 m2) ∧ Below w0.heap.size w0 w'
theorem Two.step {w0 : World} {g1 g2 : Nat} {v1 : List Int} {m1 : Value} {v2 : List Int} {m2 : Value} {wx w1 : World} (hs : Two w0 g1 g2 v1 m1 v2 m2 wx) (hb : Below wx.heap.size wx w1) : Two w0 g1 g2 v1 m1 v2 m2 w1 :=
  ⟨⟨hs.1.1.below hb hs.1.1.lt, hs.1.2.below hb hs.1.2.lt⟩, hs.2.trans (hb.mono hs.2.size)⟩
section
variable {k t f h p o s a k' t' f' h' p' o' s' a' : Int} {A A' : Option Addr} {n c n' c' B B' : Nat} {l l' : List Int} {w : World}
set_option maxRecDepth 100000 in
set_option maxHeartbeats 4000000 in
theorem refSame_any (hr : Rd .u8 w B A n c l) (hr' : Rd .u8 w B' A' n' c' l') (hB : B ≤ w.heap.size) (hB' : B' ≤ w.heap.size) (hl : By l) (hl' : By l') :
    Calls Try.prog 22 #[.agg #[.int .i64 k, .int .i64 t, .int .i64 f, .int .i64 h, .int .i64 p, .int .i64 o, .int .i64 s, .int .i64 a, .slice A n c], .agg #[.int .i64 k', .int .i64 t', .int .i64 f', .int .i64 h', .int .i64 p', .int .i64 o', .int .i64 s', .int .i64 a', .slice A' n' c']] w fun e w' => e = .returned (.bool (sameS k t f h p o s a l k' t' f' h' p' o' s' a' l')) ∧ Below w.heap.size w w' := by
  have hb := below_two w (.cells #[.int .i64 k, .int .i64 t, .int .i64 f, .int .i64 h, .int .i64 p, .int .i64 o, .int .i64 s, .int .i64 a, .slice A n c] 31) (.cells #[.int .i64 k', .int .i64 t', .int .i64 f', .int .i64 h', .int .i64 p', .int .i64 o', .int .i64 s', .int .i64 a', .slice A' n' c'] 31)
  have r1 := Kp.mk (hr.below' hb hB)
  have r2 := Kp.mk (hr'.below' hb hB')
  have heq := Kp.mk (show sameS k t f h p o s a l k' t' f' h' p' o' s' a' l' = (eight k t f h p o s a k' t' f' h' p' o' s' a' && decide (l = l')) from rfl)
  clear hr hr'
  by_cases e0 : (k == k') = true
  rotate_left
  · have e0' : (k == k') = false := by simpa using e0
    have hp := Kp.mk (show sameS k t f h p o s a l k' t' f' h' p' o' s' a' l' = false by rw [heq.out]; unfold eight; rw [e0']; simp)
    clear e0 heq
    go_enter Try.func22, Try.ntmps22
    go_wp2_with fail
    rw [hp.out]
    go_ret
    exact ⟨rfl, hb⟩
  by_cases e1 : (t == t') = true
  rotate_left
  · have e1' : (t == t') = false := by simpa using e1
    have hp := Kp.mk (show sameS k t f h p o s a l k' t' f' h' p' o' s' a' l' = false by rw [heq.out]; unfold eight; rw [e0, e1']; simp)
    clear e1 heq
    go_enter Try.func22, Try.ntmps22
    go_wp2_with fail
    rw [hp.out]
    go_ret
    exact ⟨rfl, hb⟩
  by_cases e2 : (f == f') = true
  rotate_left
  · have e2' : (f == f') = false := by simpa using e2
    have hp := Kp.mk (show sameS k t f h p o s a l k' t' f' h' p' o' s' a' l' = false by rw [heq.out]; unfold eight; rw [e0, e1, e2']; simp)
    clear e2 heq
    go_enter Try.func22, Try.ntmps22
    go_wp2_with fail
    rw [hp.out]
    go_ret
    exact ⟨rfl, hb⟩
  by_cases e3 : (h == h') = true
  rotate_left
  · have e3' : (h == h') = false := by simpa using e3
    have hp := Kp.mk (show sameS k t f h p o s a l k' t' f' h' p' o' s' a' l' = false by rw [heq.out]; unfold eight; rw [e0, e1, e2, e3']; simp)
    clear e3 heq
    go_enter Try.func22, Try.ntmps22
    go_wp2_with fail
    rw [hp.out]
    go_ret
    exact ⟨rfl, hb⟩
  by_cases e4 : (p == p') = true
  rotate_left
  · have e4' : (p == p') = false := by simpa using e4
    have hp := Kp.mk (show sameS k t f h p o s a l k' t' f' h' p' o' s' a' l' = false by rw [heq.out]; unfold eight; rw [e0, e1, e2, e3, e4']; simp)
    clear e4 heq
    go_enter Try.func22, Try.ntmps22
    go_wp2_with fail
    rw [hp.out]
    go_ret
    exact ⟨rfl, hb⟩
  by_cases e5 : (o == o') = true
  rotate_left
  · have e5' : (o == o') = false := by simpa using e5
    have hp := Kp.mk (show sameS k t f h p o s a l k' t' f' h' p' o' s' a' l' = false by rw [heq.out]; unfold eight; rw [e0, e1, e2, e3, e4, e5']; simp)
    clear e5 heq
    go_enter Try.func22, Try.ntmps22
    go_wp2_with fail
    rw [hp.out]
    go_ret
    exact ⟨rfl, hb⟩
  by_cases e6 : (s == s') = true
  rotate_left
  · have e6' : (s == s') = false := by simpa using e6
    have hp := Kp.mk (show sameS k t f h p o s a l k' t' f' h' p' o' s' a' l' = false by rw [heq.out]; unfold eight; rw [e0, e1, e2, e3, e4, e5, e6']; simp)
    clear e6 heq
    go_enter Try.func22, Try.ntmps22
    go_wp2_with fail
    rw [hp.out]
    go_ret
    exact ⟨rfl, hb⟩
  by_cases e7 : (a == a') = true
  rotate_left
  · have e7' : (a == a') = false := by simpa using e7
    have hp := Kp.mk (show sameS k t f h p o s a l k' t' f' h' p' o' s' a' l' = false by rw [heq.out]; unfold eight; rw [e0, e1, e2, e3, e4, e5, e6, e7']; simp)
    clear e7 heq
    go_enter Try.func22, Try.ntmps22
    go_wp2_with fail
    rw [hp.out]
    go_ret
    exact ⟨rfl, hb⟩
  have hp := Kp.mk (show sameS k t f h p o s a l k' t' f' h' p' o' s' a' l' = decide (l = l') by rw [heq.out]; unfold eight; rw [e0, e1, e2, e3, e4, e5, e6, e7]; simp)
  clear heq
  go_enter Try.func22, Try.ntmps22
  go_wp2_with fail
  refine (eqBytes_any r1.out r2.out hl hl').mono ?_
  rintro e w' ⟨rfl, rfl⟩
  go_wp2_with fail
  rw [hp.out]
  go_ret
  exact ⟨rfl, hb⟩

end
end Go.Proofs.Ytomjnpjabfnlbaa.Oct
