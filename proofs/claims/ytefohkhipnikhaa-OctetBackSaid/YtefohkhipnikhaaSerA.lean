/- Contracts of the functions of package serial and of the document's answer for it. Plain functions: aheadP, lessP, plusP, atP. -/
import Derived.Test.YtefohkhipnikhaaRows
import Derived.WalkKit
import Derived.ProofKit
import Derived.IntWalk
import Derived.WalkSpells
import Derived.Lib.Hide
import Derived.Below
namespace Go.Proofs.Ytefohkhipnikhaa.Ser
open Go.RowKit
set_option linter.unusedVariables false

def aheadP (a b : Int) : Int := if 32768 ≤ (b - a) % 65536 then (b - a) % 65536 - 65536 else (b - a) % 65536
def lessP (a b : Int) : Bool := decide (0 < aheadP a b)
def plusP (a n : Int) : Int := (a + n) % 65536
def atP (f n x : Int) : Int := if (x - f) % 65536 < n then (x - f) % 65536 else -1
def bringP (n m : Int) : Int := n % m

theorem ret_int {k : IntKind} {a b : Int} (h : a = b) : Ending.returned (.int k a) = .returned (.int k b) := by rw [h]

theorem ahead_eq (a b : Int) (ha : 0 ≤ a) (ha' : a < 65536) (hb : 0 ≤ b) (hb' : b < 65536) : wrap64 (IntKind.i16.wrap (IntKind.u16.wrap (b - a))) = aheadP a b := by
  rw [IntKind.wrap_u16]; unfold wrap64 aheadP; simp only [IntKind.wrap, IntKind.signed, IntKind.bits]; simp; split <;> omega
theorem plus_eq (a n : Int) : IntKind.u16.wrap (a + IntKind.u16.wrap n) = plusP a n := by
  simp only [IntKind.wrap_u16]; unfold plusP; omega
theorem at_eq1 (f x : Int) : wrap64 (IntKind.u16.wrap (x - f)) = (x - f) % 65536 := by
  simp only [IntKind.wrap_u16]; unfold wrap64; omega
theorem tmod_neg (n m : Int) (hm : 0 < m) (h : n.tmod m < 0) : n.tmod m + m = n % m := by
  have h2 := Int.tmod_eq_emod (a := n) (b := m)
  have h3 := Int.emod_nonneg n (b := m) (by omega)
  split at h2 <;> omega
theorem tmod_pos (n m : Int) (hm : 0 < m) (h : 0 ≤ n.tmod m) : n.tmod m = n % m := by
  have h2 := Int.tmod_eq_emod (a := n) (b := m)
  have h3 := Int.emod_lt_of_pos n (b := m) (by omega)
  split at h2 <;> omega
theorem bringP_bd (n m : Int) (hm : 0 < m) : 0 ≤ bringP n m ∧ bringP n m < m := ⟨Int.emod_nonneg _ (by omega), Int.emod_lt_of_pos _ hm⟩

theorem ahead_any (a b : Int) (w : World) (ha : 0 ≤ a) (ha' : a < 65536) (hb : 0 ≤ b) (hb' : b < 65536) :
    Calls Try.prog 41 #[.int .u16 a, .int .u16 b] w fun e w' => e = .returned (.int .i64 (aheadP a b)) ∧ w = w' := by
  go_enter Try.func41, Try.ntmps41
  go_wp2
  go_ret
  exact ⟨ret_int (ahead_eq a b ha ha' hb hb'), rfl⟩
theorem aheadS_any (a b : Int) (w : World) (ha : 0 ≤ a) (ha' : a < 65536) (hb : 0 ≤ b) (hb' : b < 65536) :
    Calls Try.prog 64 #[.int .u16 a, .int .u16 b] w fun e w' => e = .returned (.int .i64 (aheadP a b)) ∧ w = w' := by
  go_enter Try.func64, Try.ntmps64
  go_wp2
  go_ret
  exact ⟨ret_int (ahead_eq a b ha ha' hb hb'), rfl⟩
theorem bring_any (n m : Int) (w : World) (hm : 0 < m) (hm' : m ≤ 4294967296) :
    Calls Try.prog 40 #[.int .i64 n, .int .i64 m] w fun e w' => e = .returned (.int .i64 (bringP n m)) ∧ w = w' := by
  have hl := Int.emod_nonneg n (b := m) (by omega)
  have hr := Int.emod_lt_of_pos n hm
  have hq := Int.tmod_eq_emod (a := n) (b := m)
  by_cases h : n.tmod m < 0
  · have e1 := tmod_neg n m hm h
    have e2 : wrap64 (n.tmod m + m) = n % m := by rw [e1]; unfold wrap64; omega
    have E2 := Lib.hid e2
    clear e1 e2 hq
    go_enter Try.func40, Try.ntmps40
    go_wp2
    go_ret
    exact ⟨ret_int E2.out, rfl⟩
  · have e1 := tmod_pos n m hm (by omega)
    have E2 := Lib.hid e1
    clear e1 hq
    go_enter Try.func40, Try.ntmps40
    go_wp2
    go_ret
    exact ⟨ret_int E2.out, rfl⟩
theorem plus_any (a n : Int) (w : World) (ha : 0 ≤ a) (ha' : a < 65536) :
    Calls Try.prog 45 #[.int .u16 a, .int .i64 n] w fun e w' => e = .returned (.int .u16 (plusP a n)) ∧ w = w' := by
  go_enter Try.func45, Try.ntmps45
  go_wp2
  go_ret
  exact ⟨ret_int (plus_eq a n), rfl⟩
theorem plusS_any (a n : Int) (w : World) (ha : 0 ≤ a) (ha' : a < 65536) :
    Calls Try.prog 61 #[.int .u16 a, .int .i64 n] w fun e w' => e = .returned (.int .u16 (plusP a n)) ∧ w = w' := by
  go_enter Try.func61, Try.ntmps61
  go_wp2
  go_ret
  exact ⟨ret_int (plus_eq a n), rfl⟩
theorem less_any (a b : Int) (w : World) (ha : 0 ≤ a) (ha' : a < 65536) (hb : 0 ≤ b) (hb' : b < 65536) :
    Calls Try.prog 43 #[.int .u16 a, .int .u16 b] w fun e w' => e = .returned (.bool (lessP a b)) ∧ w = w' := by
  go_enter Try.func43, Try.ntmps43
  go_wp2_with (go_at_call 41; refine (ahead_any _ _ _ (by omega) (by omega) (by omega) (by omega)).mono ?_; rintro e w' ⟨rfl, rfl⟩)
  go_ret
  exact ⟨rfl, rfl⟩
theorem lessS_any (a b : Int) (w : World) (ha : 0 ≤ a) (ha' : a < 65536) (hb : 0 ≤ b) (hb' : b < 65536) :
    Calls Try.prog 60 #[.int .u16 a, .int .u16 b] w fun e w' => e = .returned (.bool (lessP a b)) ∧ w = w' := by
  go_enter Try.func60, Try.ntmps60
  go_wp2_with (go_at_call 64; refine (aheadS_any _ _ _ (by omega) (by omega) (by omega) (by omega)).mono ?_; rintro e w' ⟨rfl, rfl⟩)
  go_ret
  exact ⟨rfl, rfl⟩
theorem at_any (f n x : Int) (w : World) (hf : 0 ≤ f) (hf' : f < 65536) (hx : 0 ≤ x) (hx' : x < 65536) :
    Calls Try.prog 49 #[.agg #[.int .u16 f, .int .i64 n], .int .u16 x] w fun e w' => e = .returned (.int .i64 (atP f n x)) ∧ Below w.heap.size w w' := by
  by_cases h : n ≤ wrap64 (IntKind.u16.wrap (x - f))
  · go_enter Try.func49, Try.ntmps49
    go_wp2
    go_ret
    exact ⟨ret_int (by rw [at_eq1] at h; unfold atP; rw [if_neg (by omega)]), (Below.refl _ _).alloc (Nat.le_refl _) _⟩
  · go_enter Try.func49, Try.ntmps49
    go_wp2
    go_ret
    exact ⟨ret_int (by rw [at_eq1] at h ⊢; unfold atP; rw [if_pos (by omega)]), (Below.refl _ _).alloc (Nat.le_refl _) _⟩
theorem atS_any (f n x : Int) (w : World) (hf : 0 ≤ f) (hf' : f < 65536) (hx : 0 ≤ x) (hx' : x < 65536) :
    Calls Try.prog 63 #[.agg #[.int .u16 f, .int .i64 n], .int .u16 x] w fun e w' => e = .returned (.int .i64 (atP f n x)) ∧ Below w.heap.size w w' := by
  by_cases h : n ≤ wrap64 (IntKind.u16.wrap (x - f))
  · go_enter Try.func63, Try.ntmps63
    go_wp2
    go_ret
    exact ⟨ret_int (by rw [at_eq1] at h; unfold atP; rw [if_neg (by omega)]), (Below.refl _ _).alloc (Nat.le_refl _) _⟩
  · go_enter Try.func63, Try.ntmps63
    go_wp2
    go_ret
    exact ⟨ret_int (by rw [at_eq1] at h ⊢; unfold atP; rw [if_pos (by omega)]), (Below.refl _ _).alloc (Nat.le_refl _) _⟩
theorem has_any (f n x : Int) (w : World) (hf : 0 ≤ f) (hf' : f < 65536) (hx : 0 ≤ x) (hx' : x < 65536) :
    Calls Try.prog 50 #[.agg #[.int .u16 f, .int .i64 n], .int .u16 x] w fun e w' => e = .returned (.bool (decide (0 ≤ atP f n x))) ∧ Below w.heap.size w w' := by
  go_enter Try.func50, Try.ntmps50
  go_wp2_with (go_at_call 49; refine (at_any _ _ _ _ (by omega) (by omega) (by omega) (by omega)).mono ?_; rintro e w' ⟨rfl, hb⟩)
  go_ret
  exact ⟨rfl, ((Below.refl _ _).alloc (Nat.le_refl _) _).trans (hb.mono (by simp))⟩
theorem hasS_any (f n x : Int) (w : World) (hf : 0 ≤ f) (hf' : f < 65536) (hx : 0 ≤ x) (hx' : x < 65536) :
    Calls Try.prog 62 #[.agg #[.int .u16 f, .int .i64 n], .int .u16 x] w fun e w' => e = .returned (.bool (decide (0 ≤ atP f n x))) ∧ Below w.heap.size w w' := by
  go_enter Try.func62, Try.ntmps62
  go_wp2_with (go_at_call 63; refine (atS_any _ _ _ _ (by omega) (by omega) (by omega) (by omega)).mono ?_; rintro e w' ⟨rfl, hb⟩)
  go_ret
  exact ⟨rfl, ((Below.refl _ _).alloc (Nat.le_refl _) _).trans (hb.mono (by simp))⟩

/-! The document's answer. -/
theorem refAhead_any (a b : Int) (w : World) (ha : 0 ≤ a) (ha' : a < 65536) (hb : 0 ≤ b) (hb' : b < 65536) :
    Calls Try.prog 42 #[.int .i64 a, .int .i64 b] w fun e w' => e = .returned (.int .i64 (aheadP a b)) ∧ w = w' := by
  have hbd := bringP_bd (b - a) 65536 (by omega)
  obtain ⟨hb1, hb2⟩ := hbd
  by_cases h : 32768 ≤ bringP (b - a) 65536
  · go_enter Try.func42, Try.ntmps42
    go_wp2_with (go_at_call 40; refine (bring_any _ _ _ (by omega) (by omega)).mono ?_; rintro e w' ⟨rfl, rfl⟩)
    go_ret
    exact ⟨ret_int (by unfold aheadP; unfold bringP at h; rw [if_pos h]; rfl), rfl⟩
  · go_enter Try.func42, Try.ntmps42
    go_wp2_with (go_at_call 40; refine (bring_any _ _ _ (by omega) (by omega)).mono ?_; rintro e w' ⟨rfl, rfl⟩)
    go_ret
    exact ⟨ret_int (by unfold aheadP; unfold bringP at h; rw [if_neg (by omega)]; rfl), rfl⟩
theorem refLess_any (a b : Int) (w : World) (ha : 0 ≤ a) (ha' : a < 65536) (hb : 0 ≤ b) (hb' : b < 65536) :
    Calls Try.prog 44 #[.int .i64 a, .int .i64 b] w fun e w' => e = .returned (.bool (lessP a b)) ∧ w = w' := by
  go_enter Try.func44, Try.ntmps44
  go_wp2_with (go_at_call 42; refine (refAhead_any _ _ _ (by omega) (by omega) (by omega) (by omega)).mono ?_; rintro e w' ⟨rfl, rfl⟩)
  go_ret
  exact ⟨rfl, rfl⟩
theorem refPlus_any (a n : Int) (w : World) (ha : 0 ≤ a) (ha' : a < 65536) :
    Calls Try.prog 46 #[.int .i64 a, .int .i64 n] w fun e w' => e = .returned (.int .i64 (plusP a n)) ∧ w = w' := by
  have hbd := bringP_bd n 65536 (by omega)
  obtain ⟨hb1, hb2⟩ := hbd
  go_enter Try.func46, Try.ntmps46
  go_wp2_with (go_at_call 40; refine (bring_any _ _ _ (by omega) (by omega)).mono ?_; rintro e w' ⟨rfl, rfl⟩)
  go_ret
  exact ⟨ret_int (by unfold plusP bringP; omega), rfl⟩
theorem refAt_any (f n x : Int) (w : World) (hf : 0 ≤ f) (hf' : f < 65536) (hx : 0 ≤ x) (hx' : x < 65536) :
    Calls Try.prog 48 #[.int .i64 f, .int .i64 n, .int .i64 x] w fun e w' => e = .returned (.int .i64 (atP f n x)) ∧ w = w' := by
  by_cases h : bringP (x - f) 65536 < n
  · go_enter Try.func48, Try.ntmps48
    go_wp2_with (go_at_call 40; refine (bring_any _ _ _ (by omega) (by omega)).mono ?_; rintro e w' ⟨rfl, rfl⟩)
    go_ret
    exact ⟨ret_int (by unfold atP; unfold bringP at h; rw [if_pos h]; rfl), rfl⟩
  · go_enter Try.func48, Try.ntmps48
    go_wp2_with (go_at_call 40; refine (bring_any _ _ _ (by omega) (by omega)).mono ?_; rintro e w' ⟨rfl, rfl⟩)
    go_ret
    exact ⟨ret_int (by unfold atP; unfold bringP at h; rw [if_neg (by omega)]), rfl⟩
end Go.Proofs.Ytefohkhipnikhaa.Ser
