/- Contracts of layer 5: the document's Check. -/
import Derived.Test.YtomjnpjabfnlbaaSegA
import Derived.Deep.Cut
import Derived.Deep.CutRange
namespace Go.Proofs.Ytomjnpjabfnlbaa.Oct
open Go.RowKit
set_option linter.unusedVariables false
set_option linter.unusedSimpArgs false

def upToP (n m : Int) : Bool := decide (0 ≤ n ∧ n ≤ m)
theorem upTo_any (n m : Int) (w : World) : Calls Try.prog 50 #[.int .i64 n, .int .i64 m] w fun e w' => e = .returned (.bool (upToP n m)) ∧ w = w' := by
  by_cases h1 : 0 ≤ n
  · by_cases h2 : n ≤ m
    · have hp := Kp.mk (show upToP n m = true from decide_eq_true ⟨h1, h2⟩)
      go_enter Try.func50, Try.ntmps50
      go_wp2_with fail
      rw [hp.out]
      go_ret
      exact ⟨rfl, rfl⟩
    · have hp := Kp.mk (show upToP n m = false from decide_eq_false (fun h => h2 h.2))
      go_enter Try.func50, Try.ntmps50
      go_wp2_with fail
      rw [hp.out]
      go_ret
      exact ⟨rfl, rfl⟩
  · have hp := Kp.mk (show upToP n m = false from decide_eq_false (fun h => h1 h.1))
    go_enter Try.func50, Try.ntmps50
    go_wp2_with fail
    rw [hp.out]
    go_ret
    exact ⟨rfl, rfl⟩

/-- What the first test refuses. -/
def badS (k t f h p o s a : Int) (n : Nat) : Prop :=
  ¬ wayS t f ∨ k < 1 ∨ 5 < k ∨ ¬ (0 ≤ h ∧ h ≤ 12) ∨ ¬ (0 ≤ p ∧ p ≤ 4294967295) ∨ ¬ (0 ≤ o ∧ o ≤ 4294967295) ∨ ¬ (0 ≤ s ∧ s ≤ 65535) ∨ ¬ (0 ≤ a ∧ a ≤ 65535) ∨ 256 < n
instance (k t f h p o s a : Int) (n : Nat) : Decidable (badS k t f h p o s a n) := by unfold badS; infer_instance
def wayB (t f : Int) : Bool := decide (wayS t f)
def badB (k t f h p o s a : Int) (n : Nat) : Bool := decide (badS k t f h p o s a n)
def fE (k p : Int) : Bool := decide (0 < p ↔ (k = 3 ∨ k = 4 ∨ k = 5))
def fO (k o : Int) : Bool := decide (o = 0 ∨ k = 2 ∨ k = 3)
def fS (k s : Int) : Bool := decide (s = 0 ∨ k = 5)
def fA (k a : Int) : Bool := decide (a = 0 ∨ k = 4)
def fB (k : Int) (n : Nat) : Bool := decide (0 < n ↔ k = 5)
def fW (k t f : Int) : Bool := decide ((k ≠ 1 ∧ k ≠ 3 ∨ 0 < t) ∧ (k ≠ 2 ∨ 0 < f))
def sixB (k t f p o s a : Int) (n : Nat) : Bool := !(fE k p && fO k o && fS k s && fA k a && fB k n && fW k t f)
theorem okS_bad (k t f h p o s a : Int) (n : Nat) : okS k t f h p o s a n ↔ badB k t f h p o s a n = false ∧ sixB k t f p o s a n = false := by
  unfold badB sixB fE fO fS fA fB fW
  simp only [Bool.not_eq_false', Bool.and_eq_true, decide_eq_true_eq, decide_eq_false_iff_not]
  unfold okS badS wayS
  by_cases h1 : k = 1
  · subst h1; simp; omega
  by_cases h2 : k = 2
  · subst h2; simp; omega
  by_cases h3 : k = 3
  · subst h3; simp; omega
  by_cases h4 : k = 4
  · subst h4; simp; omega
  by_cases h5 : k = 5
  · subst h5; simp; omega
  simp [h1, h2, h3, h4, h5]
  omega

set_option maxRecDepth 100000 in
set_option maxHeartbeats 16000000 in
theorem refCheckS_any (k t f h p o s a : Int) (A : Option Addr) (n c : Nat) (w : World) : Calls Try.prog 45 #[.agg #[.int .i64 k, .int .i64 t, .int .i64 f, .int .i64 h, .int .i64 p, .int .i64 o, .int .i64 s, .int .i64 a, .slice A n c]] w fun e w' => e = .returned (.int .i64 (checkS k t f h p o s a n)) ∧ Below w.heap.size w w' := by
  have N := Kp.mk (okS_bad k t f h p o s a n)
  go_enter Try.func45, Try.ntmps45
  go_upto_region 1 with fail
  have hb0 := below_alloc w (.cells #[.int .i64 k, .int .i64 t, .int .i64 f, .int .i64 h, .int .i64 p, .int .i64 o, .int .i64 s, .int .i64 a, .slice A n c] 31)
  have hx0 : Sg (w.alloc (.cells #[.int .i64 k, .int .i64 t, .int .i64 f, .int .i64 h, .int .i64 p, .int .i64 o, .int .i64 s, .int .i64 a, .slice A n c] 31)) w.heap.size [k, t, f, h, p, o, s, a] (.slice A n c) := Sg.new w [k, t, f, h, p, o, s, a] (.slice A n c)
  generalize (w.alloc (.cells #[.int .i64 k, .int .i64 t, .int .i64 f, .int .i64 h, .int .i64 p, .int .i64 o, .int .i64 s, .int .i64 a, .slice A n c] 31)) = w0 at *
  obtain ⟨d0, d1, d2, d3, d4, d5, d6, d7, d8⟩ := hx0.nine
  clear hx0
  go_cut [3] from 11 (fun v wx => v = .bool (wayB t f) ∧ wx = w0)
  case first => as_aux_lemma =>
    by_cases t0 : t = 0
    · subst t0
      by_cases f0 : f = 0
      · subst f0
        have hp := Kp.mk (show wayB 0 0 = false by exact decide_eq_false (by unfold wayS; omega))
        go_wp2_with fail
        go_meet
        case rel => exact ⟨by rw [hp.out]; first | done | rfl, rfl⟩
      · have e0 : (f == 0) = false := beq_eq_false_iff_ne.2 f0
        by_cases f1 : 1 ≤ f
        · by_cases f6 : f ≤ 6
          · have hp := Kp.mk (show wayB 0 f = true by exact decide_eq_true (by unfold wayS; omega))
            clear f0
            go_wp2_with fail
            go_meet
            case rel => exact ⟨by rw [hp.out]; first | done | rfl, rfl⟩
          · have hp := Kp.mk (show wayB 0 f = false by exact decide_eq_false (by unfold wayS; omega))
            clear f0
            go_wp2_with fail
            go_meet
            case rel => exact ⟨by rw [hp.out]; first | done | rfl, rfl⟩
        · have hp := Kp.mk (show wayB 0 f = false by exact decide_eq_false (by unfold wayS; omega))
          clear f0
          go_wp2_with fail
          go_meet
          case rel => exact ⟨by rw [hp.out]; first | done | rfl, rfl⟩
    · have e0 : (t == 0) = false := beq_eq_false_iff_ne.2 t0
      by_cases f0 : f = 0
      · subst f0
        by_cases t1 : 1 ≤ t
        · by_cases t6 : t ≤ 6
          · have hp := Kp.mk (show wayB t 0 = true by exact decide_eq_true (by unfold wayS; omega))
            clear t0
            go_wp2_with fail
            go_meet
            case rel => exact ⟨by rw [hp.out]; first | done | rfl, rfl⟩
          · have hp := Kp.mk (show wayB t 0 = false by exact decide_eq_false (by unfold wayS; omega))
            clear t0
            go_wp2_with fail
            go_meet
            case rel => exact ⟨by rw [hp.out]; first | done | rfl, rfl⟩
        · have hp := Kp.mk (show wayB t 0 = false by exact decide_eq_false (by unfold wayS; omega))
          clear t0
          go_wp2_with fail
          go_meet
          case rel => exact ⟨by rw [hp.out]; first | done | rfl, rfl⟩
      · have e1 : (f == 0) = false := beq_eq_false_iff_ne.2 f0
        have hp := Kp.mk (show wayB t f = false by exact decide_eq_false (by unfold wayS; omega))
        clear t0 f0
        go_wp2_with fail
        go_meet
        case rel => exact ⟨by rw [hp.out]; first | done | rfl, rfl⟩
  case rest =>
  obtain ⟨rfl, rfl⟩ := hcut
  by_cases c0 : wayS t f
  rotate_left
  · have k0 := show wayB t f = false from decide_eq_false c0
    have hp := Kp.mk (show checkS k t f h p o s a n = 2 from if_neg (fun h => by have := (N.out.1 h).1; unfold badB badS at this; exact (of_decide_eq_false this) (.inl c0)))
    clear c0 N
    go_wp2_with fail
    rw [hp.out]
    go_ret
    exact ⟨rfl, hb0⟩
  have k0 := show wayB t f = true from decide_eq_true c0
  rw [k0]
  clear k0
  go_upto_region 2 with fail
  go_cut [86] from 11 (fun v wx => v = .bool (badB k t f h p o s a n) ∧ wx = wc)
  case first => as_aux_lemma =>
    by_cases c1 : k < 1
    · have := c1
      have hp := Kp.mk (show badB k t f h p o s a n = true by exact decide_eq_true (by unfold badS; right; omega))
      go_wp2_with fail
      go_meet
      case rel => exact ⟨by rw [hp.out]; first | done | rfl, rfl⟩
    by_cases c2 : 5 < k
    · have := c2
      have hp := Kp.mk (show badB k t f h p o s a n = true by exact decide_eq_true (by unfold badS; right; omega))
      go_wp2_with fail
      go_meet
      case rel => exact ⟨by rw [hp.out]; first | done | rfl, rfl⟩
    by_cases c3 : 0 ≤ h ∧ h ≤ 12
    rotate_left
    · have k3 := show upToP h 12 = false from decide_eq_false c3
      have hp := Kp.mk (show badB k t f h p o s a n = true by exact decide_eq_true (by unfold badS; right; omega))
      go_wp2_with (go_at_call 50; refine (upTo_any _ _ _).mono ?_; rintro e w' ⟨rfl, rfl⟩; simp only [k3])
      go_meet
      case rel => exact ⟨by rw [hp.out]; first | done | rfl, rfl⟩
    have k3 := show upToP h 12 = true from decide_eq_true c3
    by_cases c4 : 0 ≤ p ∧ p ≤ 4294967295
    rotate_left
    · have k4 := show upToP p 4294967295 = false from decide_eq_false c4
      have hp := Kp.mk (show badB k t f h p o s a n = true by exact decide_eq_true (by unfold badS; right; omega))
      go_wp2_with (go_at_call 50; refine (upTo_any _ _ _).mono ?_; rintro e w' ⟨rfl, rfl⟩; simp only [k3, k4])
      go_meet
      case rel => exact ⟨by rw [hp.out]; first | done | rfl, rfl⟩
    have k4 := show upToP p 4294967295 = true from decide_eq_true c4
    by_cases c5 : 0 ≤ o ∧ o ≤ 4294967295
    rotate_left
    · have k5 := show upToP o 4294967295 = false from decide_eq_false c5
      have hp := Kp.mk (show badB k t f h p o s a n = true by exact decide_eq_true (by unfold badS; right; omega))
      go_wp2_with (go_at_call 50; refine (upTo_any _ _ _).mono ?_; rintro e w' ⟨rfl, rfl⟩; simp only [k3, k4, k5])
      go_meet
      case rel => exact ⟨by rw [hp.out]; first | done | rfl, rfl⟩
    have k5 := show upToP o 4294967295 = true from decide_eq_true c5
    by_cases c6 : 0 ≤ s ∧ s ≤ 65535
    rotate_left
    · have k6 := show upToP s 65535 = false from decide_eq_false c6
      have hp := Kp.mk (show badB k t f h p o s a n = true by exact decide_eq_true (by unfold badS; right; omega))
      go_wp2_with (go_at_call 50; refine (upTo_any _ _ _).mono ?_; rintro e w' ⟨rfl, rfl⟩; simp only [k3, k4, k5, k6])
      go_meet
      case rel => exact ⟨by rw [hp.out]; first | done | rfl, rfl⟩
    have k6 := show upToP s 65535 = true from decide_eq_true c6
    by_cases c7 : 0 ≤ a ∧ a ≤ 65535
    rotate_left
    · have k7 := show upToP a 65535 = false from decide_eq_false c7
      have hp := Kp.mk (show badB k t f h p o s a n = true by exact decide_eq_true (by unfold badS; right; omega))
      go_wp2_with (go_at_call 50; refine (upTo_any _ _ _).mono ?_; rintro e w' ⟨rfl, rfl⟩; simp only [k3, k4, k5, k6, k7])
      go_meet
      case rel => exact ⟨by rw [hp.out]; first | done | rfl, rfl⟩
    have k7 := show upToP a 65535 = true from decide_eq_true c7
    by_cases c8 : (256 : Int) < (n : Int)
    · have := c8
      have hp := Kp.mk (show badB k t f h p o s a n = true by exact decide_eq_true (by unfold badS; right; omega))
      go_wp2_with (go_at_call 50; refine (upTo_any _ _ _).mono ?_; rintro e w' ⟨rfl, rfl⟩; simp only [k3, k4, k5, k6, k7])
      go_meet
      case rel => exact ⟨by rw [hp.out]; first | done | rfl, rfl⟩
    have hp := Kp.mk (show badB k t f h p o s a n = false by exact decide_eq_false (fun hh => by unfold badS at hh; rcases hh with hh | hh; exact hh c0; omega))
    clear c0 c3 c4 c5 c6 c7
    go_wp2_with (go_at_call 50; refine (upTo_any _ _ _).mono ?_; rintro e w' ⟨rfl, rfl⟩; simp only [k3, k4, k5, k6, k7])
    go_meet
    case rel => exact ⟨by rw [hp.out]; first | done | rfl, rfl⟩
  case rest =>
  obtain ⟨rfl, rfl⟩ := hcut
  by_cases hb : badB k t f h p o s a n = true
  · have hp := Kp.mk (show checkS k t f h p o s a n = 2 from if_neg (fun h => by have := (N.out.1 h).1; rw [hb] at this; cases this))
    rw [hb]
    go_wp2_with fail
    rw [hp.out]
    go_ret
    exact ⟨rfl, hb0⟩
  have hb1 : badB k t f h p o s a n = false := by simpa using hb
  replace N := Kp.mk (show okS k t f h p o s a n ↔ sixB k t f p o s a n = false from ⟨fun h => (N.out.1 h).2, fun h => N.out.2 ⟨hb1, h⟩⟩)
  rw [hb1]
  clear hb
  go_upto_region 5 with fail
  go_cut [5] from 11 (fun v wx => v = .bool (fE k p) ∧ wx = wc)
  case first => as_aux_lemma =>
    clear hb1 N
    by_cases k3 : k = 3
    · subst k3
      by_cases p0 : 0 < p
      · have hp := Kp.mk (show fE 3 p = true by exact decide_eq_true (by omega))
        go_wp2_with fail
        go_meet
        case rel => exact ⟨by rw [hp.out]; first | done | rfl, rfl⟩
      · have hp := Kp.mk (show fE 3 p = false by exact decide_eq_false (by omega))
        go_wp2_with fail
        go_meet
        case rel => exact ⟨by rw [hp.out]; first | done | rfl, rfl⟩
    have e3 : (k == 3) = false := beq_eq_false_iff_ne.2 k3
    by_cases k4 : k = 4
    · subst k4
      by_cases p0 : 0 < p
      · have hp := Kp.mk (show fE 4 p = true by exact decide_eq_true (by omega))
        go_wp2_with fail
        go_meet
        case rel => exact ⟨by rw [hp.out]; first | done | rfl, rfl⟩
      · have hp := Kp.mk (show fE 4 p = false by exact decide_eq_false (by omega))
        go_wp2_with fail
        go_meet
        case rel => exact ⟨by rw [hp.out]; first | done | rfl, rfl⟩
    have e4 : (k == 4) = false := beq_eq_false_iff_ne.2 k4
    by_cases k5 : k = 5
    · subst k5
      by_cases p0 : 0 < p
      · have hp := Kp.mk (show fE 5 p = true by exact decide_eq_true (by omega))
        go_wp2_with fail
        go_meet
        case rel => exact ⟨by rw [hp.out]; first | done | rfl, rfl⟩
      · have hp := Kp.mk (show fE 5 p = false by exact decide_eq_false (by omega))
        go_wp2_with fail
        go_meet
        case rel => exact ⟨by rw [hp.out]; first | done | rfl, rfl⟩
    have e5 : (k == 5) = false := beq_eq_false_iff_ne.2 k5
    by_cases p0 : 0 < p
    · have hp := Kp.mk (show fE k p = false by exact decide_eq_false (by omega))
      clear k3 k4 k5
      go_wp2_with fail
      go_meet
      case rel => exact ⟨by rw [hp.out]; first | done | rfl, rfl⟩
    · have hp := Kp.mk (show fE k p = true by exact decide_eq_true (by omega))
      clear k3 k4 k5
      go_wp2_with fail
      go_meet
      case rel => exact ⟨by rw [hp.out]; first | done | rfl, rfl⟩
  case rest =>
  obtain ⟨rfl, rfl⟩ := hcut
  go_upto_region 6 with fail
  go_cut [6] from 11 (fun v wx => v = .bool (fO k o) ∧ wx = wc)
  case first => as_aux_lemma =>
    clear hb1 N
    by_cases z0 : o = 0
    · subst z0
      have hp := Kp.mk (show fO k 0 = true by exact decide_eq_true (by omega))
      go_wp2_with fail
      go_meet
      case rel => exact ⟨by rw [hp.out]; first | done | rfl, rfl⟩
    have e0 : (o == 0) = false := beq_eq_false_iff_ne.2 z0
    by_cases k2 : k = 2
    · subst k2
      have hp := Kp.mk (show fO 2 o = true by exact decide_eq_true (by omega))
      clear z0
      go_wp2_with fail
      go_meet
      case rel => exact ⟨by rw [hp.out]; first | done | rfl, rfl⟩
    have e2 : (k == 2) = false := beq_eq_false_iff_ne.2 k2
    by_cases k3 : k = 3
    · subst k3
      have hp := Kp.mk (show fO 3 o = true by exact decide_eq_true (by omega))
      clear z0
      go_wp2_with fail
      go_meet
      case rel => exact ⟨by rw [hp.out]; first | done | rfl, rfl⟩
    have e3 : (k == 3) = false := beq_eq_false_iff_ne.2 k3
    have hp := Kp.mk (show fO k o = false by exact decide_eq_false (by omega))
    clear z0 k2 k3
    go_wp2_with fail
    go_meet
    case rel => exact ⟨by rw [hp.out]; first | done | rfl, rfl⟩
  case rest =>
  obtain ⟨rfl, rfl⟩ := hcut
  go_upto_region 7 with fail
  go_cut [7] from 11 (fun v wx => v = .bool (fS k s) ∧ wx = wc)
  case first => as_aux_lemma =>
    clear hb1 N
    by_cases z0 : s = 0
    · subst z0
      have hp := Kp.mk (show fS k 0 = true by exact decide_eq_true (by omega))
      go_wp2_with fail
      go_meet
      case rel => exact ⟨by rw [hp.out]; first | done | rfl, rfl⟩
    have e0 : (s == 0) = false := beq_eq_false_iff_ne.2 z0
    by_cases k5 : k = 5
    · subst k5
      have hp := Kp.mk (show fS 5 s = true by exact decide_eq_true (by omega))
      clear z0
      go_wp2_with fail
      go_meet
      case rel => exact ⟨by rw [hp.out]; first | done | rfl, rfl⟩
    have e5 : (k == 5) = false := beq_eq_false_iff_ne.2 k5
    have hp := Kp.mk (show fS k s = false by exact decide_eq_false (by omega))
    clear z0 k5
    go_wp2_with fail
    go_meet
    case rel => exact ⟨by rw [hp.out]; first | done | rfl, rfl⟩
  case rest =>
  obtain ⟨rfl, rfl⟩ := hcut
  go_upto_region 8 with fail
  go_cut [8] from 11 (fun v wx => v = .bool (fA k a) ∧ wx = wc)
  case first => as_aux_lemma =>
    clear hb1 N
    by_cases z0 : a = 0
    · subst z0
      have hp := Kp.mk (show fA k 0 = true by exact decide_eq_true (by omega))
      go_wp2_with fail
      go_meet
      case rel => exact ⟨by rw [hp.out]; first | done | rfl, rfl⟩
    have e0 : (a == 0) = false := beq_eq_false_iff_ne.2 z0
    by_cases k4 : k = 4
    · subst k4
      have hp := Kp.mk (show fA 4 a = true by exact decide_eq_true (by omega))
      clear z0
      go_wp2_with fail
      go_meet
      case rel => exact ⟨by rw [hp.out]; first | done | rfl, rfl⟩
    have e4 : (k == 4) = false := beq_eq_false_iff_ne.2 k4
    have hp := Kp.mk (show fA k a = false by exact decide_eq_false (by omega))
    clear z0 k4
    go_wp2_with fail
    go_meet
    case rel => exact ⟨by rw [hp.out]; first | done | rfl, rfl⟩
  case rest =>
  obtain ⟨rfl, rfl⟩ := hcut
  go_upto_region 9 with fail
  go_cut [9] from 11 (fun v wx => v = .bool (fB k n) ∧ wx = wc)
  case first => as_aux_lemma =>
    clear hb1 N
    by_cases k5 : k = 5
    · subst k5
      by_cases n0 : 0 < n
      · have n1 := decide_eq_true n0
        have hp := Kp.mk (show fB 5 n = true by exact decide_eq_true (by omega))
        go_wp2_with fail
        go_meet
        case rel => exact ⟨by rw [hp.out]; first | done | rfl, rfl⟩
      · have n1 := decide_eq_false n0
        have hp := Kp.mk (show fB 5 n = false by exact decide_eq_false (by omega))
        go_wp2_with fail
        go_meet
        case rel => exact ⟨by rw [hp.out]; first | done | rfl, rfl⟩
    have e5 : (k == 5) = false := beq_eq_false_iff_ne.2 k5
    by_cases n0 : 0 < n
    · have n1 := decide_eq_true n0
      have hp := Kp.mk (show fB k n = false by exact decide_eq_false (by omega))
      clear k5
      go_wp2_with fail
      go_meet
      case rel => exact ⟨by rw [hp.out]; first | done | rfl, rfl⟩
    · have n1 := decide_eq_false n0
      have hp := Kp.mk (show fB k n = true by exact decide_eq_true (by omega))
      clear k5
      go_wp2_with fail
      go_meet
      case rel => exact ⟨by rw [hp.out]; first | done | rfl, rfl⟩
  case rest =>
  obtain ⟨rfl, rfl⟩ := hcut
  go_upto_region 10 with fail
  go_cut [10] from 11 (fun v wx => v = .bool (fW k t f) ∧ wx = wc)
  case first => as_aux_lemma =>
    clear hb1 N
    by_cases k1 : k = 1
    · subst k1
      by_cases q0 : 0 < t
      · have hp := Kp.mk (show fW 1 t f = true by exact decide_eq_true (by omega))
        go_wp2_with fail
        go_meet
        case rel => exact ⟨by rw [hp.out]; first | done | rfl, rfl⟩
      · have hp := Kp.mk (show fW 1 t f = false by exact decide_eq_false (by omega))
        go_wp2_with fail
        go_meet
        case rel => exact ⟨by rw [hp.out]; first | done | rfl, rfl⟩
    have e1 : (k == 1) = false := beq_eq_false_iff_ne.2 k1
    have n1 : (k != 1) = true := by simp [bne, e1]
    by_cases k2 : k = 2
    · subst k2
      by_cases q0 : 0 < f
      · have hp := Kp.mk (show fW 2 t f = true by exact decide_eq_true (by omega))
        go_wp2_with fail
        go_meet
        case rel => exact ⟨by rw [hp.out]; first | done | rfl, rfl⟩
      · have hp := Kp.mk (show fW 2 t f = false by exact decide_eq_false (by omega))
        go_wp2_with fail
        go_meet
        case rel => exact ⟨by rw [hp.out]; first | done | rfl, rfl⟩
    have e2 : (k == 2) = false := beq_eq_false_iff_ne.2 k2
    have n2 : (k != 2) = true := by simp [bne, e2]
    by_cases k3 : k = 3
    · subst k3
      by_cases q0 : 0 < t
      · have hp := Kp.mk (show fW 3 t f = true by exact decide_eq_true (by omega))
        go_wp2_with fail
        go_meet
        case rel => exact ⟨by rw [hp.out]; first | done | rfl, rfl⟩
      · have hp := Kp.mk (show fW 3 t f = false by exact decide_eq_false (by omega))
        go_wp2_with fail
        go_meet
        case rel => exact ⟨by rw [hp.out]; first | done | rfl, rfl⟩
    have e3 : (k == 3) = false := beq_eq_false_iff_ne.2 k3
    have n3 : (k != 3) = true := by simp [bne, e3]
    have hp := Kp.mk (show fW k t f = true by exact decide_eq_true (by omega))
    clear k1 k2 k3
    go_wp2_with fail
    go_meet
    case rel => exact ⟨by rw [hp.out]; first | done | rfl, rfl⟩
  case rest =>
  obtain ⟨rfl, rfl⟩ := hcut
  by_cases g0 : fE k p = true
  rotate_left
  · have g0' : fE k p = false := by simpa using g0
    have hp := Kp.mk (show checkS k t f h p o s a n = 2 from if_neg (fun h => by have := N.out.1 h; unfold sixB at this; rw [g0'] at this; simp at this))
    clear g0 N
    go_wp2_with fail
    rw [hp.out]
    go_ret
    exact ⟨rfl, hb0⟩
  by_cases g1 : fO k o = true
  rotate_left
  · have g1' : fO k o = false := by simpa using g1
    have hp := Kp.mk (show checkS k t f h p o s a n = 2 from if_neg (fun h => by have := N.out.1 h; unfold sixB at this; rw [g0, g1'] at this; simp at this))
    clear g1 N
    go_wp2_with fail
    rw [hp.out]
    go_ret
    exact ⟨rfl, hb0⟩
  by_cases g2 : fS k s = true
  rotate_left
  · have g2' : fS k s = false := by simpa using g2
    have hp := Kp.mk (show checkS k t f h p o s a n = 2 from if_neg (fun h => by have := N.out.1 h; unfold sixB at this; rw [g0, g1, g2'] at this; simp at this))
    clear g2 N
    go_wp2_with fail
    rw [hp.out]
    go_ret
    exact ⟨rfl, hb0⟩
  by_cases g3 : fA k a = true
  rotate_left
  · have g3' : fA k a = false := by simpa using g3
    have hp := Kp.mk (show checkS k t f h p o s a n = 2 from if_neg (fun h => by have := N.out.1 h; unfold sixB at this; rw [g0, g1, g2, g3'] at this; simp at this))
    clear g3 N
    go_wp2_with fail
    rw [hp.out]
    go_ret
    exact ⟨rfl, hb0⟩
  by_cases g4 : fB k n = true
  rotate_left
  · have g4' : fB k n = false := by simpa using g4
    have hp := Kp.mk (show checkS k t f h p o s a n = 2 from if_neg (fun h => by have := N.out.1 h; unfold sixB at this; rw [g0, g1, g2, g3, g4'] at this; simp at this))
    clear g4 N
    go_wp2_with fail
    rw [hp.out]
    go_ret
    exact ⟨rfl, hb0⟩
  by_cases g5 : fW k t f = true
  rotate_left
  · have g5' : fW k t f = false := by simpa using g5
    have hp := Kp.mk (show checkS k t f h p o s a n = 2 from if_neg (fun h => by have := N.out.1 h; unfold sixB at this; rw [g0, g1, g2, g3, g4, g5'] at this; simp at this))
    clear g5 N
    go_wp2_with fail
    rw [hp.out]
    go_ret
    exact ⟨rfl, hb0⟩
  have hp := Kp.mk (show checkS k t f h p o s a n = 0 from if_pos (N.out.2 (by unfold sixB; rw [g0, g1, g2, g3, g4, g5]; rfl)))
  clear N
  go_wp2_with fail
  rw [hp.out]
  go_ret
  exact ⟨rfl, hb0⟩
end Go.Proofs.Ytomjnpjabfnlbaa.Oct
