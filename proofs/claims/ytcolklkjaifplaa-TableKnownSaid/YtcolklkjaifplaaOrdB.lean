/- Contracts of layer 6: what may be of matches and rules. Contracts of layer 6: rules that may be, the program. -/
import Derived.Test.YtcolklkjaifplaaOrdV
namespace Go.Proofs.Ytcolklkjaifplaa.Oct
open Go.RowKit
set_option linter.unusedVariables false
set_option linter.unusedSimpArgs false

theorem inOrd_any (n a b : Int) (w : World) : Calls Try.prog 123 #[.int .i64 n, .int .i64 a, .int .i64 b] w fun e w' => e = .returned (.bool (inB n a b)) ∧ w = w' := by
  by_cases h1 : a ≤ n
  · by_cases h2 : n ≤ b
    · have hx := Kp.mk (And.intro h1 h2)
      have hp := Kp.mk (show inB n a b = true from decide_eq_true hx.out)
      go_enter Try.func123, Try.ntmps123
      go_wp2_with fail
      rw [hp.out]
      go_ret
      exact ⟨rfl, rfl⟩
    · have hx := Kp.mk h2
      have hp := Kp.mk (show inB n a b = false from decide_eq_false (fun h => hx.out h.2))
      go_enter Try.func123, Try.ntmps123
      go_wp2_with fail
      rw [hp.out]
      go_ret
      exact ⟨rfl, rfl⟩
  · have hx := Kp.mk h1
    have hp := Kp.mk (show inB n a b = false from decide_eq_false (fun h => hx.out h.1))
    go_enter Try.func123, Try.ntmps123
    go_wp2_with fail
    rw [hp.out]
    go_ret
    exact ⟨rfl, rfl⟩
theorem refIn_any (n a b : Int) (w : World) : Calls Try.prog 128 #[.int .i64 n, .int .i64 a, .int .i64 b] w fun e w' => e = .returned (.bool (inB n a b)) ∧ w = w' := by
  by_cases h1 : a ≤ n
  · by_cases h2 : n ≤ b
    · have hx := Kp.mk (And.intro h1 h2)
      have hp := Kp.mk (show inB n a b = true from decide_eq_true hx.out)
      go_enter Try.func128, Try.ntmps128
      go_wp2_with fail
      rw [hp.out]
      go_ret
      exact ⟨rfl, rfl⟩
    · have hx := Kp.mk h2
      have hp := Kp.mk (show inB n a b = false from decide_eq_false (fun h => hx.out h.2))
      go_enter Try.func128, Try.ntmps128
      go_wp2_with fail
      rw [hp.out]
      go_ret
      exact ⟨rfl, rfl⟩
  · have hx := Kp.mk h1
    have hp := Kp.mk (show inB n a b = false from decide_eq_false (fun h => hx.out h.1))
    go_enter Try.func128, Try.ntmps128
    go_wp2_with fail
    rw [hp.out]
    go_ret
    exact ⟨rfl, rfl⟩
/-- The document's: ErrArg, unless something is so. -/
theorem refIs_any (b : Bool) (w : World) : Calls Try.prog 127 #[.bool b] w fun e w' => e = .returned (.int .i64 (if b = true then 0 else 2)) ∧ w = w' := by
  cases b
  · go_enter Try.func127, Try.ntmps127
    go_wp2_with fail
    go_ret
    exact ⟨rfl, rfl⟩
  · go_enter Try.func127, Try.ntmps127
    go_wp2_with fail
    go_ret
    exact ⟨rfl, rfl⟩

set_option maxRecDepth 100000 in
theorem covers_any (x : MaskV) (w : World) : Calls Try.prog 132 #[.agg #[.int .u8 x.b0, .int .u8 x.b1, .int .u8 x.b2], .agg #[.int .u8 x.i0, .int .u8 x.i1, .int .u8 x.i2]] w fun e w' => e = .returned (.bool (coverB x)) ∧ Below w.heap.size w w' := by
  have hb := Kp.mk (below_two w (.cells #[.int .u8 x.b0, .int .u8 x.b1, .int .u8 x.b2] 26) (.cells #[.int .u8 x.i0, .int .u8 x.i1, .int .u8 x.i2] 26))
  by_cases c0 : (clr x.i0 x.b0 == 0) = true
  rotate_left
  · have c0' : (clr x.i0 x.b0 == 0) = false := by simpa using c0
    have n0 : (bits .andNot .u8 x.i0 x.b0 != 0) = true := by unfold clr at c0'; simp only [bne, c0', Bool.not_false]
    have hp := Kp.mk (show coverB x = false by unfold coverB; rw [c0']; rfl)
    clear c0 c0'
    go_enter Try.func132, Try.ntmps132
    go_wp2_with fail
    refine wp_loop_rounds (0 + 1) ?_
    rw [rounds_succ]
    go_wp2_with fail
    go_quiet (fail)
    go_wp2_with fail
    rw [hp.out]
    go_ret
    exact ⟨rfl, by repeat first | exact hb.out | refine below_drewN ?_ _⟩
  by_cases c1 : (clr x.i1 x.b1 == 0) = true
  rotate_left
  · have n0 : (bits .andNot .u8 x.i0 x.b0 != 0) = false := by unfold clr at c0; simp only [bne, c0, Bool.not_true]
    have c1' : (clr x.i1 x.b1 == 0) = false := by simpa using c1
    have n1 : (bits .andNot .u8 x.i1 x.b1 != 0) = true := by unfold clr at c1'; simp only [bne, c1', Bool.not_false]
    have hp := Kp.mk (show coverB x = false by unfold coverB; rw [c0, c1']; rfl)
    clear c0 c1 c1'
    go_enter Try.func132, Try.ntmps132
    go_wp2_with fail
    refine wp_loop_rounds (1 + 1) ?_
    rw [rounds_succ]
    go_wp2_with fail
    go_quiet (fail)
    go_wp2_with fail
    rw [rounds_succ]
    go_wp2_with fail
    go_quiet (fail)
    go_wp2_with fail
    rw [hp.out]
    go_ret
    exact ⟨rfl, by repeat first | exact hb.out | refine below_drewN ?_ _⟩
  by_cases c2 : (clr x.i2 x.b2 == 0) = true
  rotate_left
  · have n0 : (bits .andNot .u8 x.i0 x.b0 != 0) = false := by unfold clr at c0; simp only [bne, c0, Bool.not_true]
    have n1 : (bits .andNot .u8 x.i1 x.b1 != 0) = false := by unfold clr at c1; simp only [bne, c1, Bool.not_true]
    have c2' : (clr x.i2 x.b2 == 0) = false := by simpa using c2
    have n2 : (bits .andNot .u8 x.i2 x.b2 != 0) = true := by unfold clr at c2'; simp only [bne, c2', Bool.not_false]
    have hp := Kp.mk (show coverB x = false by unfold coverB; rw [c0, c1, c2']; rfl)
    clear c0 c1 c2 c2'
    go_enter Try.func132, Try.ntmps132
    go_wp2_with fail
    refine wp_loop_rounds (2 + 1) ?_
    rw [rounds_succ]
    go_wp2_with fail
    go_quiet (fail)
    go_wp2_with fail
    rw [rounds_succ]
    go_wp2_with fail
    go_quiet (fail)
    go_wp2_with fail
    rw [rounds_succ]
    go_wp2_with fail
    go_quiet (fail)
    go_wp2_with fail
    rw [hp.out]
    go_ret
    exact ⟨rfl, by repeat first | exact hb.out | refine below_drewN ?_ _⟩
  have n0 : (bits .andNot .u8 x.i0 x.b0 != 0) = false := by unfold clr at c0; simp only [bne, c0, Bool.not_true]
  have n1 : (bits .andNot .u8 x.i1 x.b1 != 0) = false := by unfold clr at c1; simp only [bne, c1, Bool.not_true]
  have n2 : (bits .andNot .u8 x.i2 x.b2 != 0) = false := by unfold clr at c2; simp only [bne, c2, Bool.not_true]
  have hp := Kp.mk (show coverB x = true by unfold coverB; rw [c0, c1, c2]; rfl)
  clear c0 c1 c2
  go_enter Try.func132, Try.ntmps132
  go_wp2_with fail
  refine wp_loop_rounds (3 + 1) ?_
  rw [rounds_succ]
  go_wp2_with fail
  go_quiet (fail)
  go_wp2_with fail
  rw [rounds_succ]
  go_wp2_with fail
  go_quiet (fail)
  go_wp2_with fail
  rw [rounds_succ]
  go_wp2_with fail
  go_quiet (fail)
  go_wp2_with fail
  rw [rounds_succ]
  go_wp2_with fail
  rw [hp.out]
  go_ret
  exact ⟨rfl, by repeat first | exact hb.out | refine below_drewN ?_ _⟩
set_option maxRecDepth 100000 in
set_option maxHeartbeats 1600000 in
theorem matchO_any (x : MaskV) (w : World) : Calls Try.prog 124 #[.agg #[.int .i64 x.v, .int .i64 x.m, .int .u8 x.b0, .int .u8 x.b1, .int .u8 x.b2, .int .u8 x.i0, .int .u8 x.i1, .int .u8 x.i2]] w fun e w' => e = .returned (.int .i64 (checkM x)) ∧ Below w.heap.size w w' := by
  by_cases c0 : (inB x.v 0 200) = true
  rotate_left
  · have c0' : (inB x.v 0 200) = false := by simpa using c0
    clear c0
    have hp := Kp.mk (show checkM x = 2 by unfold checkM; rw [if_neg (fun h => by have h := (okM_Bo x).1 h; simp only [c0'] at h; simp at h)])
    go_enter Try.func124, Try.ntmps124
    go_wp2_with (go_at_call 123; refine (inOrd_any _ _ _ _).mono ?_; rintro e w' ⟨rfl, rfl⟩; simp only [c0'])
    rw [hp.out]
    go_ret
    exact ⟨rfl, below_alloc w _⟩
  by_cases c1 : (inB x.m (-1) 4) = true
  rotate_left
  · have c1' : (inB x.m (-1) 4) = false := by simpa using c1
    clear c1
    have hp := Kp.mk (show checkM x = 2 by unfold checkM; rw [if_neg (fun h => by have h := (okM_Bo x).1 h; simp only [c0, c1'] at h; simp at h)])
    go_enter Try.func124, Try.ntmps124
    go_wp2_with (go_at_call 123; refine (inOrd_any _ _ _ _).mono ?_; rintro e w' ⟨rfl, rfl⟩; simp only [c0, c1'])
    rw [hp.out]
    go_ret
    exact ⟨rfl, below_alloc w _⟩
  by_cases c2 : (coverB x) = true
  rotate_left
  · have c2' : (coverB x) = false := by simpa using c2
    clear c2
    have hp := Kp.mk (show checkM x = 2 by unfold checkM; rw [if_neg (fun h => by have h := (okM_Bo x).1 h; simp only [c0, c1, c2'] at h; simp at h)])
    go_enter Try.func124, Try.ntmps124
    go_wp2_with (go_at_call 123; refine (inOrd_any _ _ _ _).mono ?_; rintro e w' ⟨rfl, rfl⟩; simp only [c0, c1, c2'])
    refine (covers_any x _).mono ?_
    rintro e w1 ⟨rfl, hb1⟩
    simp only [c0, c1, c2']
    go_wp2_with fail
    rw [hp.out]
    go_ret
    exact ⟨rfl, (below_alloc w (.cells #[.int .i64 x.v, .int .i64 x.m, .int .u8 x.b0, .int .u8 x.b1, .int .u8 x.b2, .int .u8 x.i0, .int .u8 x.i1, .int .u8 x.i2] 28)).trans (hb1.mono (by simp))⟩
  have hp := Kp.mk (show checkM x = 0 by unfold checkM; rw [if_pos ((okM_Bo x).2 ⟨c0, c1, c2⟩)])
  go_enter Try.func124, Try.ntmps124
  go_wp2_with (go_at_call 123; refine (inOrd_any _ _ _ _).mono ?_; rintro e w' ⟨rfl, rfl⟩; simp only [c0, c1, c2])
  refine (covers_any x _).mono ?_
  rintro e w1 ⟨rfl, hb1⟩
  simp only [c0, c1, c2]
  go_wp2_with fail
  rw [hp.out]
  go_ret
  exact ⟨rfl, (below_alloc w (.cells #[.int .i64 x.v, .int .i64 x.m, .int .u8 x.b0, .int .u8 x.b1, .int .u8 x.b2, .int .u8 x.i0, .int .u8 x.i1, .int .u8 x.i2] 28)).trans (hb1.mono (by simp))⟩
set_option maxRecDepth 100000 in
set_option maxHeartbeats 1600000 in
theorem areFields_any (a b c : Int) (w : World) : Calls Try.prog 133 #[.agg #[.int .i64 a, .int .i64 b, .int .i64 c]] w fun e w' => e = .returned (.bool (inB a (-1) 255 && (inB b (-1) 255 && inB c (-1) 255))) ∧ Below w.heap.size w w' := by
  have i0 : ∀ w, (Instr.index 91 (.agg #[.int .i64 a, .int .i64 b, .int .i64 c]) (.int .i64 0)).run Try.prog w = .ok (.int .i64 a) w := fun _ => by kernel_rfl
  have i1 : ∀ w, (Instr.index 91 (.agg #[.int .i64 a, .int .i64 b, .int .i64 c]) (.int .i64 1)).run Try.prog w = .ok (.int .i64 b) w := fun _ => by kernel_rfl
  have i2 : ∀ w, (Instr.index 91 (.agg #[.int .i64 a, .int .i64 b, .int .i64 c]) (.int .i64 2)).run Try.prog w = .ok (.int .i64 c) w := fun _ => by kernel_rfl
  by_cases c0 : (inB a (-1) 255) = true
  rotate_left
  · have c0' : (inB a (-1) 255) = false := by simpa using c0
    clear c0
    have hp := Kp.mk (show (inB a (-1) 255 && (inB b (-1) 255 && inB c (-1) 255)) = false by rw [c0']; rfl)
    go_enter Try.func133, Try.ntmps133
    go_wp2_with fail
    refine wp_loop_rounds (0 + 1) ?_
    rw [rounds_succ]
    go_wp2_with (go_at_call 123; refine (inOrd_any _ _ _ _).mono ?_; rintro e w' ⟨rfl, rfl⟩; simp only [c0'])
    rw [hp.out]
    go_ret
    exact ⟨rfl, below_alloc w _⟩
  by_cases c1 : (inB b (-1) 255) = true
  rotate_left
  · have c1' : (inB b (-1) 255) = false := by simpa using c1
    clear c1
    have hp := Kp.mk (show (inB a (-1) 255 && (inB b (-1) 255 && inB c (-1) 255)) = false by rw [c0, c1']; rfl)
    go_enter Try.func133, Try.ntmps133
    go_wp2_with fail
    refine wp_loop_rounds (1 + 1) ?_
    rw [rounds_succ]
    go_wp2_with (go_at_call 123; refine (inOrd_any _ _ _ _).mono ?_; rintro e w' ⟨rfl, rfl⟩; simp only [c0, c1'])
    rw [rounds_succ]
    go_wp2_with (go_at_call 123; refine (inOrd_any _ _ _ _).mono ?_; rintro e w' ⟨rfl, rfl⟩; simp only [c0, c1'])
    rw [hp.out]
    go_ret
    exact ⟨rfl, below_alloc w _⟩
  by_cases c2 : (inB c (-1) 255) = true
  rotate_left
  · have c2' : (inB c (-1) 255) = false := by simpa using c2
    clear c2
    have hp := Kp.mk (show (inB a (-1) 255 && (inB b (-1) 255 && inB c (-1) 255)) = false by rw [c0, c1, c2']; rfl)
    go_enter Try.func133, Try.ntmps133
    go_wp2_with fail
    refine wp_loop_rounds (2 + 1) ?_
    rw [rounds_succ]
    go_wp2_with (go_at_call 123; refine (inOrd_any _ _ _ _).mono ?_; rintro e w' ⟨rfl, rfl⟩; simp only [c0, c1, c2'])
    rw [rounds_succ]
    go_wp2_with (go_at_call 123; refine (inOrd_any _ _ _ _).mono ?_; rintro e w' ⟨rfl, rfl⟩; simp only [c0, c1, c2'])
    rw [rounds_succ]
    go_wp2_with (go_at_call 123; refine (inOrd_any _ _ _ _).mono ?_; rintro e w' ⟨rfl, rfl⟩; simp only [c0, c1, c2'])
    rw [hp.out]
    go_ret
    exact ⟨rfl, below_alloc w _⟩
  have hp := Kp.mk (show (inB a (-1) 255 && (inB b (-1) 255 && inB c (-1) 255)) = true by rw [c0, c1, c2]; rfl)
  go_enter Try.func133, Try.ntmps133
  go_wp2_with fail
  refine wp_loop_rounds (3 + 1) ?_
  rw [rounds_succ]
  go_wp2_with (go_at_call 123; refine (inOrd_any _ _ _ _).mono ?_; rintro e w' ⟨rfl, rfl⟩; simp only [c0, c1, c2])
  rw [rounds_succ]
  go_wp2_with (go_at_call 123; refine (inOrd_any _ _ _ _).mono ?_; rintro e w' ⟨rfl, rfl⟩; simp only [c0, c1, c2])
  rw [rounds_succ]
  go_wp2_with (go_at_call 123; refine (inOrd_any _ _ _ _).mono ?_; rintro e w' ⟨rfl, rfl⟩; simp only [c0, c1, c2])
  rw [rounds_succ]
  go_wp2_with (go_at_call 123; refine (inOrd_any _ _ _ _).mono ?_; rintro e w' ⟨rfl, rfl⟩; simp only [c0, c1, c2])
  rw [hp.out]
  go_ret
  exact ⟨rfl, below_alloc w _⟩
end Go.Proofs.Ytcolklkjaifplaa.Oct

namespace Go.Proofs.Ytcolklkjaifplaa.Oct
open Go.RowKit
set_option linter.unusedVariables false
set_option linter.unusedSimpArgs false

theorem all_snoc' {α : Type} (p : α → Bool) (l : List α) (k : Nat) (x : α) (h : l[k]? = some x) (h1 : (l.take k).all p = true) (h2 : p x = true) : (l.take (k + 1)).all p = true := by
  have hk := (List.getElem?_eq_some_iff.1 h).1
  rw [List.take_add_one, List.all_append, h1, h]
  simp [h2]
theorem all_none' {α : Type} (p : α → Bool) (l : List α) (k : Nat) (x : α) (h : l[k]? = some x) (h2 : p x = false) : l.all p = false := by
  rw [List.all_eq_false]
  exact ⟨x, List.mem_of_getElem? h, by simp [h2]⟩
set_option maxRecDepth 100000 in
theorem areOuts_any {w : World} {B : Nat} {A : Option Addr} {n c : Nat} {os : List OutV} (h : Ro w B A n c os) (hB : B ≤ w.heap.size) : Calls Try.prog 125 #[.slice A n c] w fun e w' => e = .returned (.bool (outsB os)) ∧ Below w.heap.size w w' := by
  have hl := h.len
  by_cases hn : n ≤ 8
  · have hn' : (n : Int) ≤ 8 := by omega
    have ho1 := Kp.mk (show outsB os = os.all okOB by unfold outsB; rw [decide_eq_true (by omega)]; rfl)
    go_enter Try.func125, Try.ntmps125
    go_wp2_with fail
    go_loopw [10] (fun i wr => ∃ k : Nat, k ≤ n ∧ i = .int .i64 k ∧ Kp ((os.take k).all okOB = true) ∧ Below w.heap.size w wr) (fun i _ => n - (intOf i).toNat)
    case atStart => exact ⟨0, by omega, rfl, Kp.mk rfl, Below.refl _ _⟩
    case round =>
      obtain ⟨k, hk, rfl, ha, hb⟩ := hrel
      have hz := hb.size
      by_cases hlt : k < n
      · obtain ⟨b, off, rfl, hbB, hc⟩ := (h.below' hb hB).at_ (by omega)
        obtain ⟨o, hok⟩ : ∃ o, os[k]? = some o := ⟨_, List.getElem?_eq_getElem (by omega)⟩
        obtain ⟨d0, d1, d2, d3⟩ := hc k o hok
        have j1 : (k : Int) < n := by omega
        have Hok := Kp.mk hok
        have Hl := Kp.mk hl
        clear hc hok hl
        by_cases c0 : inB o.p 0 4 = true
        · by_cases c1 : (inB o.a (-1) 255 && (inB o.b (-1) 255 && inB o.c (-1) 255)) = true
          · have hp := Kp.mk (all_snoc' okOB os k o Hok.out ha.out (by unfold okOB; rw [c0, c1]; rfl))
            go_wp2_with (go_at_call 123; refine (inOrd_any _ _ _ _).mono ?_; rintro e w' ⟨rfl, rfl⟩; simp only [c0])
            refine (areFields_any _ _ _ _).mono ?_
            rintro e w1 ⟨rfl, hb1⟩
            simp only [c1]
            go_wp2_with fail
            go_roundw
            case rel => exact ⟨k + 1, by omega, by go_num, hp, hb.trans (((below_alloc wr _).mono hz).trans (hb1.mono (by simp; omega)))⟩
            case measure => simp [intOf]; omega
          · have c1' : (inB o.a (-1) 255 && (inB o.b (-1) 255 && inB o.c (-1) 255)) = false := by simpa using c1
            have hp := Kp.mk (show outsB os = false by rw [ho1.out]; exact all_none' okOB os k o Hok.out (by unfold okOB; rw [c0, c1']; rfl))
            clear c1
            go_wp2_with (go_at_call 123; refine (inOrd_any _ _ _ _).mono ?_; rintro e w' ⟨rfl, rfl⟩; simp only [c0])
            refine (areFields_any _ _ _ _).mono ?_
            rintro e w1 ⟨rfl, hb1⟩
            simp only [c1']
            go_wp2_with fail
            rw [hp.out]
            go_ret
            exact ⟨rfl, hb.trans (((below_alloc wr _).mono hz).trans (hb1.mono (by simp; omega)))⟩
        · have c0' : inB o.p 0 4 = false := by simpa using c0
          have hp := Kp.mk (show outsB os = false by rw [ho1.out]; exact all_none' okOB os k o Hok.out (by unfold okOB; rw [c0']; rfl))
          clear c0
          go_wp2_with (go_at_call 123; refine (inOrd_any _ _ _ _).mono ?_; rintro e w' ⟨rfl, rfl⟩; simp only [c0'])
          rw [hp.out]
          go_ret
          exact ⟨rfl, hb.trans ((below_alloc wr _).mono hz)⟩
      · obtain rfl : k = n := by omega
        have hp := Kp.mk (show outsB os = true by rw [ho1.out]; have := ha.out; rw [List.take_of_length_le (by omega)] at this; exact this)
        clear hl
        go_wp2_with fail
        rw [hp.out]
        go_ret
        exact ⟨rfl, hb⟩
  · have hn' : (8 : Int) < n := by omega
    have hp := Kp.mk (show outsB os = false by unfold outsB; rw [decide_eq_false (by omega)]; rfl)
    clear hn hl
    go_enter Try.func125, Try.ntmps125
    go_wp2_with fail
    rw [hp.out]
    go_ret
    exact ⟨rfl, Below.refl _ _⟩
set_option maxRecDepth 100000 in
set_option maxHeartbeats 1600000 in
theorem isData_any {w : World} {B : Nat} {A : Option Addr} {n c : Nat} (r : RuleV) (h : Ro w B A n c r.os) (hB : B ≤ w.heap.size) : Calls Try.prog 106 #[.agg #[.int .i64 r.k, .int .i64 r.pr, .int .i64 r.to, .int .i64 r.po, .int .i64 r.x.v, .int .i64 r.x.m, .int .u8 r.x.b0, .int .u8 r.x.b1, .int .u8 r.x.b2, .int .u8 r.x.i0, .int .u8 r.x.i1, .int .u8 r.x.i2, .slice A n c]] w fun e w' => e = .returned (.bool (dataBo r)) ∧ Below w.heap.size w w' := by
  by_cases c0 : (r.k == 1) = true
  rotate_left
  · have c0' : (r.k == 1) = false := by simpa using c0
    clear c0
    have hp := Kp.mk (show dataBo r = false by unfold dataBo; rw [c0']; rfl)
    go_enter Try.func106, Try.ntmps106
    go_wp2_with (go_at_call 123; refine (inOrd_any _ _ _ _).mono ?_; rintro e w' ⟨rfl, rfl⟩; simp only [c0'])
    rw [hp.out]
    go_ret
    exact ⟨rfl, below_alloc w _⟩
  by_cases c1 : (inB r.pr 0 65535) = true
  rotate_left
  · have c1' : (inB r.pr 0 65535) = false := by simpa using c1
    clear c1
    have hp := Kp.mk (show dataBo r = false by unfold dataBo; rw [c0, c1']; rfl)
    go_enter Try.func106, Try.ntmps106
    go_wp2_with (go_at_call 123; refine (inOrd_any _ _ _ _).mono ?_; rintro e w' ⟨rfl, rfl⟩; simp only [c0, c1'])
    rw [hp.out]
    go_ret
    exact ⟨rfl, below_alloc w _⟩
  by_cases c2 : (r.to == 0) = true
  rotate_left
  · have c2' : (r.to == 0) = false := by simpa using c2
    clear c2
    have hp := Kp.mk (show dataBo r = false by unfold dataBo; rw [c0, c1, c2']; rfl)
    go_enter Try.func106, Try.ntmps106
    go_wp2_with (go_at_call 123; refine (inOrd_any _ _ _ _).mono ?_; rintro e w' ⟨rfl, rfl⟩; simp only [c0, c1, c2'])
    rw [hp.out]
    go_ret
    exact ⟨rfl, below_alloc w _⟩
  by_cases c3 : (r.po == 0) = true
  rotate_left
  · have c3' : (r.po == 0) = false := by simpa using c3
    clear c3
    have hp := Kp.mk (show dataBo r = false by unfold dataBo; rw [c0, c1, c2, c3']; rfl)
    go_enter Try.func106, Try.ntmps106
    go_wp2_with (go_at_call 123; refine (inOrd_any _ _ _ _).mono ?_; rintro e w' ⟨rfl, rfl⟩; simp only [c0, c1, c2, c3'])
    rw [hp.out]
    go_ret
    exact ⟨rfl, below_alloc w _⟩
  by_cases c4 : (checkM r.x == 0) = true
  rotate_left
  · have c4' : (checkM r.x == 0) = false := by simpa using c4
    clear c4
    have hp := Kp.mk (show dataBo r = false by unfold dataBo; rw [c0, c1, c2, c3, c4']; rfl)
    go_enter Try.func106, Try.ntmps106
    go_wp2_with (go_at_call 123; refine (inOrd_any _ _ _ _).mono ?_; rintro e w' ⟨rfl, rfl⟩; simp only [c0, c1, c2, c3, c4'])
    refine (matchO_any r.x _).mono ?_
    rintro e w1 ⟨rfl, hb1⟩
    have hv := (Vb.new 31 w [.int .i64 r.k, .int .i64 r.pr, .int .i64 r.to, .int .i64 r.po, .int .i64 r.x.v, .int .i64 r.x.m, .int .u8 r.x.b0, .int .u8 r.x.b1, .int .u8 r.x.b2, .int .u8 r.x.i0, .int .u8 r.x.i1, .int .u8 r.x.i2, .slice A n c]).below hb1 (by simp)
    have d12 := hv.cell 12 rfl
    have hb0 : Below w.heap.size w w1 := (below_alloc w (.cells #[.int .i64 r.k, .int .i64 r.pr, .int .i64 r.to, .int .i64 r.po, .int .i64 r.x.v, .int .i64 r.x.m, .int .u8 r.x.b0, .int .u8 r.x.b1, .int .u8 r.x.b2, .int .u8 r.x.i0, .int .u8 r.x.i1, .int .u8 r.x.i2, .slice A n c] 31)).trans (hb1.mono (by simp))
    clear hv hb1
    go_wp2_with fail
    rw [hp.out]
    go_ret
    exact ⟨rfl, hb0⟩
  by_cases c5 : (outsB r.os) = true
  rotate_left
  · have c5' : (outsB r.os) = false := by simpa using c5
    clear c5
    have hp := Kp.mk (show dataBo r = false by unfold dataBo; rw [c0, c1, c2, c3, c4, c5']; rfl)
    go_enter Try.func106, Try.ntmps106
    go_wp2_with (go_at_call 123; refine (inOrd_any _ _ _ _).mono ?_; rintro e w' ⟨rfl, rfl⟩; simp only [c0, c1, c2, c3, c4, c5'])
    refine (matchO_any r.x _).mono ?_
    rintro e w1 ⟨rfl, hb1⟩
    have hv := (Vb.new 31 w [.int .i64 r.k, .int .i64 r.pr, .int .i64 r.to, .int .i64 r.po, .int .i64 r.x.v, .int .i64 r.x.m, .int .u8 r.x.b0, .int .u8 r.x.b1, .int .u8 r.x.b2, .int .u8 r.x.i0, .int .u8 r.x.i1, .int .u8 r.x.i2, .slice A n c]).below hb1 (by simp)
    have d12 := hv.cell 12 rfl
    have hb0 : Below w.heap.size w w1 := (below_alloc w (.cells #[.int .i64 r.k, .int .i64 r.pr, .int .i64 r.to, .int .i64 r.po, .int .i64 r.x.v, .int .i64 r.x.m, .int .u8 r.x.b0, .int .u8 r.x.b1, .int .u8 r.x.b2, .int .u8 r.x.i0, .int .u8 r.x.i1, .int .u8 r.x.i2, .slice A n c] 31)).trans (hb1.mono (by simp))
    clear hv hb1
    go_wp2_with fail
    refine (areOuts_any (h.below' hb0 hB) (by have := hb0.size; omega)).mono ?_
    rintro e w2 ⟨rfl, hb2⟩
    simp only [c0, c1, c2, c3, c4, c5']
    go_wp2_with fail
    rw [hp.out]
    go_ret
    exact ⟨rfl, hb0.trans (hb2.mono hb0.size)⟩
  have hp := Kp.mk (show dataBo r = true by unfold dataBo; rw [c0, c1, c2, c3, c4, c5]; rfl)
  go_enter Try.func106, Try.ntmps106
  go_wp2_with (go_at_call 123; refine (inOrd_any _ _ _ _).mono ?_; rintro e w' ⟨rfl, rfl⟩; simp only [c0, c1, c2, c3, c4, c5])
  refine (matchO_any r.x _).mono ?_
  rintro e w1 ⟨rfl, hb1⟩
  have hv := (Vb.new 31 w [.int .i64 r.k, .int .i64 r.pr, .int .i64 r.to, .int .i64 r.po, .int .i64 r.x.v, .int .i64 r.x.m, .int .u8 r.x.b0, .int .u8 r.x.b1, .int .u8 r.x.b2, .int .u8 r.x.i0, .int .u8 r.x.i1, .int .u8 r.x.i2, .slice A n c]).below hb1 (by simp)
  have d12 := hv.cell 12 rfl
  have hb0 : Below w.heap.size w w1 := (below_alloc w (.cells #[.int .i64 r.k, .int .i64 r.pr, .int .i64 r.to, .int .i64 r.po, .int .i64 r.x.v, .int .i64 r.x.m, .int .u8 r.x.b0, .int .u8 r.x.b1, .int .u8 r.x.b2, .int .u8 r.x.i0, .int .u8 r.x.i1, .int .u8 r.x.i2, .slice A n c] 31)).trans (hb1.mono (by simp))
  clear hv hb1
  go_wp2_with fail
  refine (areOuts_any (h.below' hb0 hB) (by have := hb0.size; omega)).mono ?_
  rintro e w2 ⟨rfl, hb2⟩
  simp only [c0, c1, c2, c3, c4, c5]
  go_wp2_with fail
  rw [hp.out]
  go_ret
  exact ⟨rfl, hb0.trans (hb2.mono hb0.size)⟩
set_option maxRecDepth 100000 in
set_option maxHeartbeats 1600000 in
theorem isCtl_any {w : World} {B : Nat} {A : Option Addr} {n c : Nat} (r : RuleV) (h : Ro w B A n c r.os) (hB : B ≤ w.heap.size) : Calls Try.prog 107 #[.agg #[.int .i64 r.k, .int .i64 r.pr, .int .i64 r.to, .int .i64 r.po, .int .i64 r.x.v, .int .i64 r.x.m, .int .u8 r.x.b0, .int .u8 r.x.b1, .int .u8 r.x.b2, .int .u8 r.x.i0, .int .u8 r.x.i1, .int .u8 r.x.i2, .slice A n c]] w fun e w' => e = .returned (.bool (ctlBo r)) ∧ Below w.heap.size w w' := by
  have eM : ∀ w, (Op.equalIn 10000 28 (.agg #[.int .i64 r.x.v, .int .i64 r.x.m, .int .u8 r.x.b0, .int .u8 r.x.b1, .int .u8 r.x.b2, .int .u8 r.x.i0, .int .u8 r.x.i1, .int .u8 r.x.i2]) (.agg #[.int .i64 0, .int .i64 0, .int .u8 0, .int .u8 0, .int .u8 0, .int .u8 0, .int .u8 0, .int .u8 0])).run Try.prog w = .ok (zeroMB r.x) w := fun w => by rw [← eqMB_no]; exact eq_mask r.x noMask w
  by_cases c0 : (r.k == 2) = true
  rotate_left
  · have c0' : (r.k == 2) = false := by simpa using c0
    clear c0
    have hp := Kp.mk (show ctlBo r = false by unfold ctlBo; rw [h.len, c0']; rfl)
    go_enter Try.func107, Try.ntmps107
    go_wp2_with (go_at_call 123; refine (inOrd_any _ _ _ _).mono ?_; rintro e w' ⟨rfl, rfl⟩; simp only [c0'])
    rw [hp.out]
    go_ret
    exact ⟨rfl, below_alloc w _⟩
  by_cases c1 : (inB r.to 0 6) = true
  rotate_left
  · have c1' : (inB r.to 0 6) = false := by simpa using c1
    clear c1
    have hp := Kp.mk (show ctlBo r = false by unfold ctlBo; rw [h.len, c0, c1']; rfl)
    go_enter Try.func107, Try.ntmps107
    go_wp2_with (go_at_call 123; refine (inOrd_any _ _ _ _).mono ?_; rintro e w' ⟨rfl, rfl⟩; simp only [c0, c1'])
    rw [hp.out]
    go_ret
    exact ⟨rfl, below_alloc w _⟩
  by_cases c2 : (inB r.po 0 4) = true
  rotate_left
  · have c2' : (inB r.po 0 4) = false := by simpa using c2
    clear c2
    have hp := Kp.mk (show ctlBo r = false by unfold ctlBo; rw [h.len, c0, c1, c2']; rfl)
    go_enter Try.func107, Try.ntmps107
    go_wp2_with (go_at_call 123; refine (inOrd_any _ _ _ _).mono ?_; rintro e w' ⟨rfl, rfl⟩; simp only [c0, c1, c2'])
    rw [hp.out]
    go_ret
    exact ⟨rfl, below_alloc w _⟩
  by_cases c3 : (r.pr == 0) = true
  rotate_left
  · have c3' : (r.pr == 0) = false := by simpa using c3
    clear c3
    have hp := Kp.mk (show ctlBo r = false by unfold ctlBo; rw [h.len, c0, c1, c2, c3']; rfl)
    go_enter Try.func107, Try.ntmps107
    go_wp2_with (go_at_call 123; refine (inOrd_any _ _ _ _).mono ?_; rintro e w' ⟨rfl, rfl⟩; simp only [c0, c1, c2, c3'])
    rw [hp.out]
    go_ret
    exact ⟨rfl, below_alloc w _⟩
  by_cases c4 : (zeroMB r.x) = true
  rotate_left
  · have c4' : (zeroMB r.x) = false := by simpa using c4
    clear c4
    have hp := Kp.mk (show ctlBo r = false by unfold ctlBo; rw [h.len, c0, c1, c2, c3, c4']; rfl)
    go_enter Try.func107, Try.ntmps107
    go_wp2_with (go_at_call 123; refine (inOrd_any _ _ _ _).mono ?_; rintro e w' ⟨rfl, rfl⟩; simp only [c0, c1, c2, c3, c4'])
    rw [hp.out]
    go_ret
    exact ⟨rfl, below_alloc w _⟩
  by_cases c5 : ((n : Int) == 0) = true
  rotate_left
  · have c5' : ((n : Int) == 0) = false := by simpa using c5
    clear c5
    have hp := Kp.mk (show ctlBo r = false by unfold ctlBo; rw [h.len, c0, c1, c2, c3, c4, c5']; rfl)
    go_enter Try.func107, Try.ntmps107
    go_wp2_with (go_at_call 123; refine (inOrd_any _ _ _ _).mono ?_; rintro e w' ⟨rfl, rfl⟩; simp only [c0, c1, c2, c3, c4, c5'])
    rw [hp.out]
    go_ret
    exact ⟨rfl, below_alloc w _⟩
  have hp := Kp.mk (show ctlBo r = true by unfold ctlBo; rw [h.len, c0, c1, c2, c3, c4, c5]; rfl)
  go_enter Try.func107, Try.ntmps107
  go_wp2_with (go_at_call 123; refine (inOrd_any _ _ _ _).mono ?_; rintro e w' ⟨rfl, rfl⟩; simp only [c0, c1, c2, c3, c4, c5])
  rw [hp.out]
  go_ret
  exact ⟨rfl, below_alloc w _⟩
set_option maxRecDepth 100000 in
set_option maxHeartbeats 1600000 in
theorem ruleO_any {w : World} {B : Nat} {A : Option Addr} {n c : Nat} (r : RuleV) (h : Ro w B A n c r.os) (hB : B ≤ w.heap.size) : Calls Try.prog 97 #[.agg #[.int .i64 r.k, .int .i64 r.pr, .int .i64 r.to, .int .i64 r.po, .int .i64 r.x.v, .int .i64 r.x.m, .int .u8 r.x.b0, .int .u8 r.x.b1, .int .u8 r.x.b2, .int .u8 r.x.i0, .int .u8 r.x.i1, .int .u8 r.x.i2, .slice A n c]] w fun e w' => e = .returned (.int .i64 (checkR r)) ∧ Below w.heap.size w w' := by
  have hb0 := below_alloc w (.cells #[.int .i64 r.k, .int .i64 r.pr, .int .i64 r.to, .int .i64 r.po, .int .i64 r.x.v, .int .i64 r.x.m, .int .u8 r.x.b0, .int .u8 r.x.b1, .int .u8 r.x.b2, .int .u8 r.x.i0, .int .u8 r.x.i1, .int .u8 r.x.i2, .slice A n c] 31)
  by_cases c0 : dataBo r = true
  · have hp := Kp.mk (show checkR r = 0 by rw [checkR_Bo, c0]; rfl)
    have HC := Kp.mk (fun (w0 : World) (hb : Below w.heap.size w w0) => isData_any r (h.below' hb hB) (by have := hb.size; omega))
    go_enter Try.func97, Try.ntmps97
    go_wp2_with fail
    refine (HC.out _ hb0).mono ?_
    rintro e w1 ⟨rfl, hb1⟩
    simp only [c0]
    go_wp2_with fail
    rw [hp.out]
    go_ret
    exact ⟨rfl, hb0.trans (hb1.mono (by simp))⟩
  · have c0' : dataBo r = false := by simpa using c0
    clear c0
    by_cases c1 : ctlBo r = true
    · have hp := Kp.mk (show checkR r = 0 by rw [checkR_Bo, c0', c1]; rfl)
      have HC := Kp.mk (fun (w0 : World) (hb : Below w.heap.size w w0) => isData_any r (h.below' hb hB) (by have := hb.size; omega))
      have HD := Kp.mk (fun (w0 : World) (hb : Below w.heap.size w w0) => isCtl_any r (h.below' hb hB) (by have := hb.size; omega))
      go_enter Try.func97, Try.ntmps97
      go_wp2_with fail
      refine (HC.out _ hb0).mono ?_
      rintro e w1 ⟨rfl, hb1⟩
      simp only [c0']
      have hv := (Vb.new 31 w [.int .i64 r.k, .int .i64 r.pr, .int .i64 r.to, .int .i64 r.po, .int .i64 r.x.v, .int .i64 r.x.m, .int .u8 r.x.b0, .int .u8 r.x.b1, .int .u8 r.x.b2, .int .u8 r.x.i0, .int .u8 r.x.i1, .int .u8 r.x.i2, .slice A n c]).below hb1 (by simp)
      obtain ⟨d0, d1, d2, d3, d4, d5, d6, d7, d8, d9, d10, d11, d12⟩ := hv.c13
      have hb2 := hb0.trans (hb1.mono (by simp))
      clear hv hb1
      go_wp2_with fail
      refine (HD.out _ hb2).mono ?_
      rintro e w2 ⟨rfl, hb3⟩
      simp only [c1]
      go_wp2_with fail
      rw [hp.out]
      go_ret
      exact ⟨rfl, hb2.trans (hb3.mono hb2.size)⟩
    · have c1' : ctlBo r = false := by simpa using c1
      clear c1
      have hp := Kp.mk (show checkR r = 2 by rw [checkR_Bo, c0', c1']; rfl)
      have HC := Kp.mk (fun (w0 : World) (hb : Below w.heap.size w w0) => isData_any r (h.below' hb hB) (by have := hb.size; omega))
      have HD := Kp.mk (fun (w0 : World) (hb : Below w.heap.size w w0) => isCtl_any r (h.below' hb hB) (by have := hb.size; omega))
      go_enter Try.func97, Try.ntmps97
      go_wp2_with fail
      refine (HC.out _ hb0).mono ?_
      rintro e w1 ⟨rfl, hb1⟩
      simp only [c0']
      have hv := (Vb.new 31 w [.int .i64 r.k, .int .i64 r.pr, .int .i64 r.to, .int .i64 r.po, .int .i64 r.x.v, .int .i64 r.x.m, .int .u8 r.x.b0, .int .u8 r.x.b1, .int .u8 r.x.b2, .int .u8 r.x.i0, .int .u8 r.x.i1, .int .u8 r.x.i2, .slice A n c]).below hb1 (by simp)
      obtain ⟨d0, d1, d2, d3, d4, d5, d6, d7, d8, d9, d10, d11, d12⟩ := hv.c13
      have hb2 := hb0.trans (hb1.mono (by simp))
      clear hv hb1
      go_wp2_with fail
      refine (HD.out _ hb2).mono ?_
      rintro e w2 ⟨rfl, hb3⟩
      simp only [c1']
      go_wp2_with fail
      rw [hp.out]
      go_ret
      exact ⟨rfl, hb2.trans (hb3.mono hb2.size)⟩
end Go.Proofs.Ytcolklkjaifplaa.Oct
