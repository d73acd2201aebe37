/- Contracts of the leaf functions of layer 1: CopyBytes, EqBytes, isSize, fits, copyOf, digits, number, doubled, Sum, and the document's Sum. -/
import Derived.Test.YtnhjpiaenbhilaaOctW
namespace Go.Proofs.Ytnhjpiaenbhilaa.Oct
open Go.RowKit
set_option linter.unusedVariables false

theorem ret_int {k : IntKind} {a b : Int} (h : a = b) : Ending.returned (.int k a) = .returned (.int k b) := by rw [h]
theorem ret_bool {a b : Bool} (h : a = b) : Ending.returned (.bool a) = .returned (.bool b) := by rw [h]

theorem eqBytes_any {w : World} {B1 B2 : Nat} {A1 A2 : Option Addr} {n1 c1 n2 c2 : Nat} {l1 l2 : List Int} (h1 : Rd .u8 w B1 A1 n1 c1 l1) (h2 : Rd .u8 w B2 A2 n2 c2 l2) (b1 : By l1) (b2 : By l2) :
    Calls Try.prog 12 #[.slice A1 n1 c1, .slice A2 n2 c2] w fun e w' => e = .returned (.bool (decide (l1 = l2))) ∧ w = w' := by
  have k1 := run_string h1
  have k2 := run_string h2
  go_enter Try.func12, Try.ntmps12
  go_wp2_with fail
  go_ret
  exact ⟨ret_bool (str_beq b1 b2), rfl⟩

/-- What CopyBytes and their like answer: a slice of the call's own. -/
def NewOf (l : List Int) (w : World) (e : Ending) (w' : World) : Prop :=
  ∃ A n c, e = .returned (.slice A n c) ∧ Own w' w.heap.size (.slice A n c) n l ∧ Below w.heap.size w w'

theorem copyBytes_any {w : World} {B : Nat} {A : Option Addr} {n c : Nat} {l : List Int} (h : Rd .u8 w B A n c l) (hs : n ≤ 140737488355328) :
    Calls Try.prog 19 #[.slice A n c] w (NewOf l w) := by
  go_enter Try.func19, Try.ntmps19
  go_wp2_with (at_builtin; refine wpList_append8 rfl (.tmp 4) (.tmp 5) rfl rfl (Own.nil w w.heap.size) rfl h (by omega) (Nat.le_refl _) ?_; intro A' c' w' ho hb)
  go_ret
  exact ⟨A', _, c', rfl, by simpa using ho, hb⟩

theorem isSize_any (s : Int) (w : World) : Calls Try.prog 55 #[.int .i64 s] w fun e w' => e = .returned (.bool (decide (s = 1 ∨ s = 2 ∨ s = 4))) ∧ w = w' := by
  by_cases h1 : s = 1
  · subst h1
    go_enter Try.func55, Try.ntmps55
    go_wp2
    go_ret
    exact ⟨ret_bool (by simp), rfl⟩
  · have e1 : (s == 1) = false := by simpa using h1
    by_cases h2 : s = 2
    · subst h2
      go_enter Try.func55, Try.ntmps55
      go_wp2
      go_ret
      exact ⟨ret_bool (by simp), rfl⟩
    · have e2 : (s == 2) = false := by simpa using h2
      by_cases h4 : s = 4
      · subst h4
        go_enter Try.func55, Try.ntmps55
        go_wp2
        go_ret
        exact ⟨ret_bool (by simp), rfl⟩
      · have e4 : (s == 4) = false := by simpa using h4
        have E : Hid (decide (s = 1 ∨ s = 2 ∨ s = 4) = false) := Lib.hid (by simp [h1, h2, h4])
        clear h1 h2 h4
        go_enter Try.func55, Try.ntmps55
        go_wp2
        go_ret
        exact ⟨ret_bool E.out.symm, rfl⟩

/-- n has at most s digits. -/
def fitsP (n : Int) (s : Nat) : Bool := decide (0 ≤ n ∧ n < 2 ^ (8 * s))
theorem fits_any (n : Int) (s : Nat) (hs : s ≤ 4) (w : World) : Calls Try.prog 56 #[.int .i64 n, .int .i64 s] w fun e w' => e = .returned (.bool (fitsP n s)) ∧ w = w' := by
  have e : ((8 : Int) * s).toNat = 8 * s := by omega
  have key : (n / 2 ^ (8 * s) == 0) = fitsP n s := by
    unfold fitsP
    have hp : (0 : Int) < 2 ^ (8 * s) := Int.pow_pos (by omega)
    rw [Bool.eq_iff_iff]
    simp only [beq_iff_eq, decide_eq_true_eq]
    generalize (2 : Int) ^ (8 * s) = m at *
    constructor
    · intro h
      have h1 := Int.mul_ediv_add_emod n m
      have h2 := Int.emod_nonneg n (b := m) (by omega)
      have h3 := Int.emod_lt_of_pos n hp
      rw [h] at h1
      omega
    · intro h
      exact Int.ediv_eq_zero_of_lt h.1 h.2
  have K := Lib.hid key
  clear key
  go_enter Try.func56, Try.ntmps56
  go_wp2
  go_ret
  exact ⟨ret_bool (by rw [← K.out, ← e]), rfl⟩

theorem copyOf_any {w : World} {B : Nat} {A : Option Addr} {n c : Nat} {l : List Int} (more : Nat) (C : Int) (hC : C = (more : Int)) (h : Rd .u8 w B A n c l) (hB : B ≤ w.heap.size) (hs : n + more ≤ 140737488355328) :
    Calls Try.prog 57 #[.slice A n c, .int .i64 C] w (NewOf l w) := by
  subst hC
  have hmk := run_make8 (n + more) (by omega) ((n : Int) + (more : Int)) (by omega)
  have ho1 := own_made w w.heap.size (n + more) (Nat.le_refl _) (by omega)
  have hr1 := h.below' ((Below.refl w.heap.size w).alloc (Nat.le_refl _) (.cells (madeCells (Value.int .u8 0).cells (n + more)) 5)) hB
  go_enter Try.func57, Try.ntmps57
  go_wp2_with (at_builtin; refine wpList_append8 rfl (.tmp 9) (.tmp 10) rfl rfl (l := []) ho1 rfl hr1 (by omega) (by simp) ?_; intro A' c' w' ho hb)
  go_ret
  exact ⟨A', _, c', rfl, by simpa using ho, ((Below.refl w.heap.size w).alloc (Nat.le_refl _) _).trans hb⟩
end Go.Proofs.Ytnhjpiaenbhilaa.Oct
