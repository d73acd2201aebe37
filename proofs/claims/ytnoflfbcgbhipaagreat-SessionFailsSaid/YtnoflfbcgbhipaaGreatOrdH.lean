import Derived.Test.YtnoflfbcgbhipaaGreatOrdL
import Derived.MapKept
import Derived.StillTailTactics
set_option linter.unusedSimpArgs false
set_option linter.unusedVariables false
set_option maxRecDepth 100000
set_option maxHeartbeats 3200000
namespace Go.Proofs.YtnoflfbcgbhipaaGreat.Oct
open Go.RowKit
theorem inOrd_any (n a b : Int) (w : World) : Calls Tryz.prog 227 #[.int .i64 n, .int .i64 a, .int .i64 b] w fun e w' => e = .returned (.bool (inB n a b)) ∧ w = w' := by
 by_cases h1 : a ≤ n
 ·by_cases h2 : n ≤ b
  ·have hx := Kp.mk (And.intro h1 h2)
   have hp := Kp.mk (show inB n a b = true from decide_eq_true hx.out)
   go_enter Tryz.func227, Tryz.ntmps227
   go_wp2_with fail
   rw [hp.out]
   go_ret
   exact ⟨rfl, rfl⟩
  ·have hx := Kp.mk h2
   have hp := Kp.mk (show inB n a b = false from decide_eq_false (fun h => hx.out h.2))
   go_enter Tryz.func227, Tryz.ntmps227
   go_wp2_with fail
   rw [hp.out]
   go_ret
   exact ⟨rfl, rfl⟩
 ·have hx := Kp.mk h1
  have hp := Kp.mk (show inB n a b = false from decide_eq_false (fun h => hx.out h.1))
  go_enter Tryz.func227, Tryz.ntmps227
  go_wp2_with fail
  rw [hp.out]
  go_ret
  exact ⟨rfl, rfl⟩
theorem covers_any (x : MaskV) (w : World) : Calls Tryz.prog 269 #[.agg #[.int .u8 x.b0, .int .u8 x.b1, .int .u8 x.b2], .agg #[.int .u8 x.i0, .int .u8 x.i1, .int .u8 x.i2]] w fun e w' => e = .returned (.bool (coverB x)) ∧ Below w.heap.size w w' := by
 have hb := Kp.mk (below_two w (.cells #[.int .u8 x.b0, .int .u8 x.b1, .int .u8 x.b2] 42) (.cells #[.int .u8 x.i0, .int .u8 x.i1, .int .u8 x.i2] 42))
 by_cases c0 : (clr x.i0 x.b0 == 0) = true
 rotate_left
 ·have c0' : (clr x.i0 x.b0 == 0) = false := by simpa using c0
  have n0 : (bits .andNot .u8 x.i0 x.b0 != 0) = true := by unfold clr at c0'; simp only [bne, c0', Bool.not_false]
  have hp := Kp.mk (show coverB x = false by unfold coverB; rw [c0']; rfl)
  clear c0 c0'
  go_enter Tryz.func269, Tryz.ntmps269
  go_wp2_with fail
  refine wp_loop_rounds (0 + 1) ?_
  rw [rounds_succ]
  go_wp2_with fail
  go_quiet (fail)
  go_wp2_with fail
  rw [hp.out]
  go_ret
  exact ⟨rfl, by repeat first | exact hb.out | refine below_drewN ?_ _⟩
 by_cases c1 : (clr x.i1 x.b1 == 0) = true
 rotate_left
 ·have n0 : (bits .andNot .u8 x.i0 x.b0 != 0) = false := by unfold clr at c0; simp only [bne, c0, Bool.not_true]
  have c1' : (clr x.i1 x.b1 == 0) = false := by simpa using c1
  have n1 : (bits .andNot .u8 x.i1 x.b1 != 0) = true := by unfold clr at c1'; simp only [bne, c1', Bool.not_false]
  have hp := Kp.mk (show coverB x = false by unfold coverB; rw [c0, c1']; rfl)
  clear c0 c1 c1'
  go_enter Tryz.func269, Tryz.ntmps269
  go_wp2_with fail
  refine wp_loop_rounds (1 + 1) ?_
  rw [rounds_succ]
  go_wp2_with fail
  go_quiet (fail)
  go_wp2_with fail
  rw [rounds_succ]
  go_wp2_with fail
  go_quiet (fail)
  go_wp2_with fail
  rw [hp.out]
  go_ret
  exact ⟨rfl, by repeat first | exact hb.out | refine below_drewN ?_ _⟩
 by_cases c2 : (clr x.i2 x.b2 == 0) = true
 rotate_left
 ·have n0 : (bits .andNot .u8 x.i0 x.b0 != 0) = false := by unfold clr at c0; simp only [bne, c0, Bool.not_true]
  have n1 : (bits .andNot .u8 x.i1 x.b1 != 0) = false := by unfold clr at c1; simp only [bne, c1, Bool.not_true]
  have c2' : (clr x.i2 x.b2 == 0) = false := by simpa using c2
  have n2 : (bits .andNot .u8 x.i2 x.b2 != 0) = true := by unfold clr at c2'; simp only [bne, c2', Bool.not_false]
  have hp := Kp.mk (show coverB x = false by unfold coverB; rw [c0, c1, c2']; rfl)
  clear c0 c1 c2 c2'
  go_enter Tryz.func269, Tryz.ntmps269
  go_wp2_with fail
  refine wp_loop_rounds (2 + 1) ?_
  rw [rounds_succ]
  go_wp2_with fail
  go_quiet (fail)
  go_wp2_with fail
  rw [rounds_succ]
  go_wp2_with fail
  go_quiet (fail)
  go_wp2_with fail
  rw [rounds_succ]
  go_wp2_with fail
  go_quiet (fail)
  go_wp2_with fail
  rw [hp.out]
  go_ret
  exact ⟨rfl, by repeat first | exact hb.out | refine below_drewN ?_ _⟩
 have n0 : (bits .andNot .u8 x.i0 x.b0 != 0) = false := by unfold clr at c0; simp only [bne, c0, Bool.not_true]
 have n1 : (bits .andNot .u8 x.i1 x.b1 != 0) = false := by unfold clr at c1; simp only [bne, c1, Bool.not_true]
 have n2 : (bits .andNot .u8 x.i2 x.b2 != 0) = false := by unfold clr at c2; simp only [bne, c2, Bool.not_true]
 have hp := Kp.mk (show coverB x = true by unfold coverB; rw [c0, c1, c2]; rfl)
 clear c0 c1 c2
 go_enter Tryz.func269, Tryz.ntmps269
 go_wp2_with fail
 refine wp_loop_rounds (3 + 1) ?_
 rw [rounds_succ]
 go_wp2_with fail
 go_quiet (fail)
 go_wp2_with fail
 rw [rounds_succ]
 go_wp2_with fail
 go_quiet (fail)
 go_wp2_with fail
 rw [rounds_succ]
 go_wp2_with fail
 go_quiet (fail)
 go_wp2_with fail
 rw [rounds_succ]
 go_wp2_with fail
 rw [hp.out]
 go_ret
 exact ⟨rfl, by repeat first | exact hb.out | refine below_drewN ?_ _⟩
theorem matchO_any (x : MaskV) (w : World) : Calls Tryz.prog 263 #[.agg #[.int .i64 x.v, .int .i64 x.m, .int .u8 x.b0, .int .u8 x.b1, .int .u8 x.b2, .int .u8 x.i0, .int .u8 x.i1, .int .u8 x.i2]] w fun e w' => e = .returned (.int .i64 (checkM x)) ∧ Below w.heap.size w w' := by
 by_cases c0 : (inB x.v 0 200) = true
 rotate_left
 ·have c0' : (inB x.v 0 200) = false := by simpa using c0
  clear c0
  have hp := Kp.mk (show checkM x = 2 by unfold checkM; rw [if_neg (fun h => by have h := (okM_Bo x).1 h; simp only [c0'] at h; simp at h)])
  go_enter Tryz.func263, Tryz.ntmps263
  go_wp2_with (go_at_call 227; refine (inOrd_any _ _ _ _).mono ?_; rintro e w' ⟨rfl, rfl⟩; simp only [c0'])
  rw [hp.out]
  go_ret
  exact ⟨rfl, below_alloc w _⟩
 by_cases c1 : (inB x.m (-1) 4) = true
 rotate_left
 ·have c1' : (inB x.m (-1) 4) = false := by simpa using c1
  clear c1
  have hp := Kp.mk (show checkM x = 2 by unfold checkM; rw [if_neg (fun h => by have h := (okM_Bo x).1 h; simp only [c0, c1'] at h; simp at h)])
  go_enter Tryz.func263, Tryz.ntmps263
  go_wp2_with (go_at_call 227; refine (inOrd_any _ _ _ _).mono ?_; rintro e w' ⟨rfl, rfl⟩; simp only [c0, c1'])
  rw [hp.out]
  go_ret
  exact ⟨rfl, below_alloc w _⟩
 by_cases c2 : (coverB x) = true
 rotate_left
 ·have c2' : (coverB x) = false := by simpa using c2
  clear c2
  have hp := Kp.mk (show checkM x = 2 by unfold checkM; rw [if_neg (fun h => by have h := (okM_Bo x).1 h; simp only [c0, c1, c2'] at h; simp at h)])
  go_enter Tryz.func263, Tryz.ntmps263
  go_wp2_with (go_at_call 227; refine (inOrd_any _ _ _ _).mono ?_; rintro e w' ⟨rfl, rfl⟩; simp only [c0, c1, c2'])
  refine (covers_any x _).mono ?_
  rintro e w1 ⟨rfl, hb1⟩
  simp only [c0, c1, c2']
  go_wp2_with fail
  rw [hp.out]
  go_ret
  exact ⟨rfl, (below_alloc w (.cells #[.int .i64 x.v, .int .i64 x.m, .int .u8 x.b0, .int .u8 x.b1, .int .u8 x.b2, .int .u8 x.i0, .int .u8 x.i1, .int .u8 x.i2] 44)).trans (hb1.mono (by simp))⟩
 have hp := Kp.mk (show checkM x = 0 by unfold checkM; rw [if_pos ((okM_Bo x).2 ⟨c0, c1, c2⟩)])
 go_enter Tryz.func263, Tryz.ntmps263
 go_wp2_with (go_at_call 227; refine (inOrd_any _ _ _ _).mono ?_; rintro e w' ⟨rfl, rfl⟩; simp only [c0, c1, c2])
 refine (covers_any x _).mono ?_
 rintro e w1 ⟨rfl, hb1⟩
 simp only [c0, c1, c2]
 go_wp2_with fail
 rw [hp.out]
 go_ret
 exact ⟨rfl, (below_alloc w (.cells #[.int .i64 x.v, .int .i64 x.m, .int .u8 x.b0, .int .u8 x.b1, .int .u8 x.b2, .int .u8 x.i0, .int .u8 x.i1, .int .u8 x.i2] 44)).trans (hb1.mono (by simp))⟩
theorem areFields_any (a b c : Int) (w : World) : Calls Tryz.prog 270 #[.agg #[.int .i64 a, .int .i64 b, .int .i64 c]] w fun e w' => e = .returned (.bool (inB a (-1) 255 && (inB b (-1) 255 && inB c (-1) 255))) ∧ Below w.heap.size w w' := by
 have i0 : ∀ w, (Instr.index 257 (.agg #[.int .i64 a, .int .i64 b, .int .i64 c]) (.int .i64 0)).run Tryz.prog w = .ok (.int .i64 a) w := fun _ => by kernel_rfl
 have i1 : ∀ w, (Instr.index 257 (.agg #[.int .i64 a, .int .i64 b, .int .i64 c]) (.int .i64 1)).run Tryz.prog w = .ok (.int .i64 b) w := fun _ => by kernel_rfl
 have i2 : ∀ w, (Instr.index 257 (.agg #[.int .i64 a, .int .i64 b, .int .i64 c]) (.int .i64 2)).run Tryz.prog w = .ok (.int .i64 c) w := fun _ => by kernel_rfl
 by_cases c0 : (inB a (-1) 255) = true
 rotate_left
 ·have c0' : (inB a (-1) 255) = false := by simpa using c0
  clear c0
  have hp := Kp.mk (show (inB a (-1) 255 && (inB b (-1) 255 && inB c (-1) 255)) = false by rw [c0']; rfl)
  go_enter Tryz.func270, Tryz.ntmps270
  go_wp2_with fail
  refine wp_loop_rounds (0 + 1) ?_
  rw [rounds_succ]
  go_wp2_with (go_at_call 227; refine (inOrd_any _ _ _ _).mono ?_; rintro e w' ⟨rfl, rfl⟩; simp only [c0'])
  rw [hp.out]
  go_ret
  exact ⟨rfl, below_alloc w _⟩
 by_cases c1 : (inB b (-1) 255) = true
 rotate_left
 ·have c1' : (inB b (-1) 255) = false := by simpa using c1
  clear c1
  have hp := Kp.mk (show (inB a (-1) 255 && (inB b (-1) 255 && inB c (-1) 255)) = false by rw [c0, c1']; rfl)
  go_enter Tryz.func270, Tryz.ntmps270
  go_wp2_with fail
  refine wp_loop_rounds (1 + 1) ?_
  rw [rounds_succ]
  go_wp2_with (go_at_call 227; refine (inOrd_any _ _ _ _).mono ?_; rintro e w' ⟨rfl, rfl⟩; simp only [c0, c1'])
  rw [rounds_succ]
  go_wp2_with (go_at_call 227; refine (inOrd_any _ _ _ _).mono ?_; rintro e w' ⟨rfl, rfl⟩; simp only [c0, c1'])
  rw [hp.out]
  go_ret
  exact ⟨rfl, below_alloc w _⟩
 by_cases c2 : (inB c (-1) 255) = true
 rotate_left
 ·have c2' : (inB c (-1) 255) = false := by simpa using c2
  clear c2
  have hp := Kp.mk (show (inB a (-1) 255 && (inB b (-1) 255 && inB c (-1) 255)) = false by rw [c0, c1, c2']; rfl)
  go_enter Tryz.func270, Tryz.ntmps270
  go_wp2_with fail
  refine wp_loop_rounds (2 + 1) ?_
  rw [rounds_succ]
  go_wp2_with (go_at_call 227; refine (inOrd_any _ _ _ _).mono ?_; rintro e w' ⟨rfl, rfl⟩; simp only [c0, c1, c2'])
  rw [rounds_succ]
  go_wp2_with (go_at_call 227; refine (inOrd_any _ _ _ _).mono ?_; rintro e w' ⟨rfl, rfl⟩; simp only [c0, c1, c2'])
  rw [rounds_succ]
  go_wp2_with (go_at_call 227; refine (inOrd_any _ _ _ _).mono ?_; rintro e w' ⟨rfl, rfl⟩; simp only [c0, c1, c2'])
  rw [hp.out]
  go_ret
  exact ⟨rfl, below_alloc w _⟩
 have hp := Kp.mk (show (inB a (-1) 255 && (inB b (-1) 255 && inB c (-1) 255)) = true by rw [c0, c1, c2]; rfl)
 go_enter Tryz.func270, Tryz.ntmps270
 go_wp2_with fail
 refine wp_loop_rounds (3 + 1) ?_
 rw [rounds_succ]
 go_wp2_with (go_at_call 227; refine (inOrd_any _ _ _ _).mono ?_; rintro e w' ⟨rfl, rfl⟩; simp only [c0, c1, c2])
 rw [rounds_succ]
 go_wp2_with (go_at_call 227; refine (inOrd_any _ _ _ _).mono ?_; rintro e w' ⟨rfl, rfl⟩; simp only [c0, c1, c2])
 rw [rounds_succ]
 go_wp2_with (go_at_call 227; refine (inOrd_any _ _ _ _).mono ?_; rintro e w' ⟨rfl, rfl⟩; simp only [c0, c1, c2])
 rw [rounds_succ]
 go_wp2_with (go_at_call 227; refine (inOrd_any _ _ _ _).mono ?_; rintro e w' ⟨rfl, rfl⟩; simp only [c0, c1, c2])
 rw [hp.out]
 go_ret
 exact ⟨rfl, below_alloc w _⟩
theorem all_snoc' {α : Type} (p : α → Bool) (l : List α) (k : Nat) (x : α) (h : l[k]? = some x) (h1 : (l.take k).all p = true) (h2 : p x = true) : (l.take (k + 1)).all p = true := by
 have hk := (List.getElem?_eq_some_iff.1 h).1
 rw [List.take_add_one, List.all_append, h1, h]
 simp [h2]
theorem all_none' {α : Type} (p : α → Bool) (l : List α) (k : Nat) (x : α) (h : l[k]? = some x) (h2 : p x = false) : l.all p = false := by
 rw [List.all_eq_false]
 exact ⟨x, List.mem_of_getElem? h, by simp [h2]⟩
theorem areOuts_any {w : World} {B : Nat} {A : Option Addr} {n c : Nat} {os : List OutV} (h : Ro w B A n c os) (hB : B ≤ w.heap.size) : Calls Tryz.prog 264 #[.slice A n c] w fun e w' => e = .returned (.bool (outsB os)) ∧ Below w.heap.size w w' := by
 have hl := h.len
 by_cases hn : n ≤ 8
 ·have hn' : (n : Int) ≤ 8 := by omega
  have ho1 := Kp.mk (show outsB os = os.all okOB by unfold outsB; rw [decide_eq_true (by omega)]; rfl)
  go_enter Tryz.func264, Tryz.ntmps264
  go_wp2_with fail
  go_loopw [10] (fun i wr => ∃ k : Nat, k ≤ n ∧ i = .int .i64 k ∧ Kp ((os.take k).all okOB = true) ∧ Below w.heap.size w wr) (fun i _ => n - (intOf i).toNat)
  case atStart => exact ⟨0, by omega, rfl, Kp.mk rfl, Below.refl _ _⟩
  case round =>
   obtain ⟨k, hk, rfl, ha, hb⟩ := hrel
   have hz := hb.size
   by_cases hlt : k < n
   ·obtain ⟨b, off, rfl, hbB, hc⟩ := (h.below' hb hB).at_ (by omega)
    obtain ⟨o, hok⟩ : ∃ o, os[k]? = some o := ⟨_, List.getElem?_eq_getElem (by omega)⟩
    obtain ⟨d0, d1, d2, d3⟩ := hc k o hok
    have j1 : (k : Int) < n := by omega
    have Hok := Kp.mk hok
    have Hl := Kp.mk hl
    clear hc hok hl
    by_cases c0 : inB o.p 0 4 = true
    ·by_cases c1 : (inB o.a (-1) 255 && (inB o.b (-1) 255 && inB o.c (-1) 255)) = true
     ·have hp := Kp.mk (all_snoc' okOB os k o Hok.out ha.out (by unfold okOB; rw [c0, c1]; rfl))
      go_wp2_with (go_at_call 227; refine (inOrd_any _ _ _ _).mono ?_; rintro e w' ⟨rfl, rfl⟩; simp only [c0])
      refine (areFields_any _ _ _ _).mono ?_
      rintro e w1 ⟨rfl, hb1⟩
      simp only [c1]
      go_wp2_with fail
      go_roundw
      case rel => exact ⟨k + 1, by omega, by go_num, hp, hb.trans (((below_alloc wr _).mono hz).trans (hb1.mono (by simp; omega)))⟩
      case measure => simp [intOf]; omega
     ·have c1' : (inB o.a (-1) 255 && (inB o.b (-1) 255 && inB o.c (-1) 255)) = false := by simpa using c1
      have hp := Kp.mk (show outsB os = false by rw [ho1.out]; exact all_none' okOB os k o Hok.out (by unfold okOB; rw [c0, c1']; rfl))
      clear c1
      go_wp2_with (go_at_call 227; refine (inOrd_any _ _ _ _).mono ?_; rintro e w' ⟨rfl, rfl⟩; simp only [c0])
      refine (areFields_any _ _ _ _).mono ?_
      rintro e w1 ⟨rfl, hb1⟩
      simp only [c1']
      go_wp2_with fail
      rw [hp.out]
      go_ret
      exact ⟨rfl, hb.trans (((below_alloc wr _).mono hz).trans (hb1.mono (by simp; omega)))⟩
    ·have c0' : inB o.p 0 4 = false := by simpa using c0
     have hp := Kp.mk (show outsB os = false by rw [ho1.out]; exact all_none' okOB os k o Hok.out (by unfold okOB; rw [c0']; rfl))
     clear c0
     go_wp2_with (go_at_call 227; refine (inOrd_any _ _ _ _).mono ?_; rintro e w' ⟨rfl, rfl⟩; simp only [c0'])
     rw [hp.out]
     go_ret
     exact ⟨rfl, hb.trans ((below_alloc wr _).mono hz)⟩
   ·obtain rfl : k = n := by omega
    have hp := Kp.mk (show outsB os = true by rw [ho1.out]; have := ha.out; rw [List.take_of_length_le (by omega)] at this; exact this)
    clear hl
    go_wp2_with fail
    rw [hp.out]
    go_ret
    exact ⟨rfl, hb⟩
 ·have hn' : (8 : Int) < n := by omega
  have hp := Kp.mk (show outsB os = false by unfold outsB; rw [decide_eq_false (by omega)]; rfl)
  clear hn hl
  go_enter Tryz.func264, Tryz.ntmps264
  go_wp2_with fail
  rw [hp.out]
  go_ret
  exact ⟨rfl, Below.refl _ _⟩
theorem isData_any {w : World} {B : Nat} {A : Option Addr} {n c : Nat} (r : RuleV) (h : Ro w B A n c r.os) (hB : B ≤ w.heap.size) : Calls Tryz.prog 250 #[.agg #[.int .i64 r.k, .int .i64 r.pr, .int .i64 r.to, .int .i64 r.po, .int .i64 r.x.v, .int .i64 r.x.m, .int .u8 r.x.b0, .int .u8 r.x.b1, .int .u8 r.x.b2, .int .u8 r.x.i0, .int .u8 r.x.i1, .int .u8 r.x.i2, .slice A n c]] w fun e w' => e = .returned (.bool (dataBo r)) ∧ Below w.heap.size w w' := by
 by_cases c0 : (r.k == 1) = true
 rotate_left
 ·have c0' : (r.k == 1) = false := by simpa using c0
  clear c0
  have hp := Kp.mk (show dataBo r = false by unfold dataBo; rw [c0']; rfl)
  go_enter Tryz.func250, Tryz.ntmps250
  go_wp2_with (go_at_call 227; refine (inOrd_any _ _ _ _).mono ?_; rintro e w' ⟨rfl, rfl⟩; simp only [c0'])
  rw [hp.out]
  go_ret
  exact ⟨rfl, below_alloc w _⟩
 by_cases c1 : (inB r.pr 0 65535) = true
 rotate_left
 ·have c1' : (inB r.pr 0 65535) = false := by simpa using c1
  clear c1
  have hp := Kp.mk (show dataBo r = false by unfold dataBo; rw [c0, c1']; rfl)
  go_enter Tryz.func250, Tryz.ntmps250
  go_wp2_with (go_at_call 227; refine (inOrd_any _ _ _ _).mono ?_; rintro e w' ⟨rfl, rfl⟩; simp only [c0, c1'])
  rw [hp.out]
  go_ret
  exact ⟨rfl, below_alloc w _⟩
 by_cases c2 : (r.to == 0) = true
 rotate_left
 ·have c2' : (r.to == 0) = false := by simpa using c2
  clear c2
  have hp := Kp.mk (show dataBo r = false by unfold dataBo; rw [c0, c1, c2']; rfl)
  go_enter Tryz.func250, Tryz.ntmps250
  go_wp2_with (go_at_call 227; refine (inOrd_any _ _ _ _).mono ?_; rintro e w' ⟨rfl, rfl⟩; simp only [c0, c1, c2'])
  rw [hp.out]
  go_ret
  exact ⟨rfl, below_alloc w _⟩
 by_cases c3 : (r.po == 0) = true
 rotate_left
 ·have c3' : (r.po == 0) = false := by simpa using c3
  clear c3
  have hp := Kp.mk (show dataBo r = false by unfold dataBo; rw [c0, c1, c2, c3']; rfl)
  go_enter Tryz.func250, Tryz.ntmps250
  go_wp2_with (go_at_call 227; refine (inOrd_any _ _ _ _).mono ?_; rintro e w' ⟨rfl, rfl⟩; simp only [c0, c1, c2, c3'])
  rw [hp.out]
  go_ret
  exact ⟨rfl, below_alloc w _⟩
 by_cases c4 : (checkM r.x == 0) = true
 rotate_left
 ·have c4' : (checkM r.x == 0) = false := by simpa using c4
  clear c4
  have hp := Kp.mk (show dataBo r = false by unfold dataBo; rw [c0, c1, c2, c3, c4']; rfl)
  go_enter Tryz.func250, Tryz.ntmps250
  go_wp2_with (go_at_call 227; refine (inOrd_any _ _ _ _).mono ?_; rintro e w' ⟨rfl, rfl⟩; simp only [c0, c1, c2, c3, c4'])
  refine (matchO_any r.x _).mono ?_
  rintro e w1 ⟨rfl, hb1⟩
  have hv := (Vb.new 47 w [.int .i64 r.k, .int .i64 r.pr, .int .i64 r.to, .int .i64 r.po, .int .i64 r.x.v, .int .i64 r.x.m, .int .u8 r.x.b0, .int .u8 r.x.b1, .int .u8 r.x.b2, .int .u8 r.x.i0, .int .u8 r.x.i1, .int .u8 r.x.i2, .slice A n c]).below hb1 (by simp)
  have d12 := hv.cell 12 rfl
  have hb0 : Below w.heap.size w w1 := (below_alloc w (.cells #[.int .i64 r.k, .int .i64 r.pr, .int .i64 r.to, .int .i64 r.po, .int .i64 r.x.v, .int .i64 r.x.m, .int .u8 r.x.b0, .int .u8 r.x.b1, .int .u8 r.x.b2, .int .u8 r.x.i0, .int .u8 r.x.i1, .int .u8 r.x.i2, .slice A n c] 47)).trans (hb1.mono (by simp))
  clear hv hb1
  go_wp2_with fail
  rw [hp.out]
  go_ret
  exact ⟨rfl, hb0⟩
 by_cases c5 : (outsB r.os) = true
 rotate_left
 ·have c5' : (outsB r.os) = false := by simpa using c5
  clear c5
  have hp := Kp.mk (show dataBo r = false by unfold dataBo; rw [c0, c1, c2, c3, c4, c5']; rfl)
  go_enter Tryz.func250, Tryz.ntmps250
  go_wp2_with (go_at_call 227; refine (inOrd_any _ _ _ _).mono ?_; rintro e w' ⟨rfl, rfl⟩; simp only [c0, c1, c2, c3, c4, c5'])
  refine (matchO_any r.x _).mono ?_
  rintro e w1 ⟨rfl, hb1⟩
  have hv := (Vb.new 47 w [.int .i64 r.k, .int .i64 r.pr, .int .i64 r.to, .int .i64 r.po, .int .i64 r.x.v, .int .i64 r.x.m, .int .u8 r.x.b0, .int .u8 r.x.b1, .int .u8 r.x.b2, .int .u8 r.x.i0, .int .u8 r.x.i1, .int .u8 r.x.i2, .slice A n c]).below hb1 (by simp)
  have d12 := hv.cell 12 rfl
  have hb0 : Below w.heap.size w w1 := (below_alloc w (.cells #[.int .i64 r.k, .int .i64 r.pr, .int .i64 r.to, .int .i64 r.po, .int .i64 r.x.v, .int .i64 r.x.m, .int .u8 r.x.b0, .int .u8 r.x.b1, .int .u8 r.x.b2, .int .u8 r.x.i0, .int .u8 r.x.i1, .int .u8 r.x.i2, .slice A n c] 47)).trans (hb1.mono (by simp))
  clear hv hb1
  go_wp2_with fail
  refine (areOuts_any (h.below' hb0 hB) (by have := hb0.size; omega)).mono ?_
  rintro e w2 ⟨rfl, hb2⟩
  simp only [c0, c1, c2, c3, c4, c5']
  go_wp2_with fail
  rw [hp.out]
  go_ret
  exact ⟨rfl, hb0.trans (hb2.mono hb0.size)⟩
 have hp := Kp.mk (show dataBo r = true by unfold dataBo; rw [c0, c1, c2, c3, c4, c5]; rfl)
 go_enter Tryz.func250, Tryz.ntmps250
 go_wp2_with (go_at_call 227; refine (inOrd_any _ _ _ _).mono ?_; rintro e w' ⟨rfl, rfl⟩; simp only [c0, c1, c2, c3, c4, c5])
 refine (matchO_any r.x _).mono ?_
 rintro e w1 ⟨rfl, hb1⟩
 have hv := (Vb.new 47 w [.int .i64 r.k, .int .i64 r.pr, .int .i64 r.to, .int .i64 r.po, .int .i64 r.x.v, .int .i64 r.x.m, .int .u8 r.x.b0, .int .u8 r.x.b1, .int .u8 r.x.b2, .int .u8 r.x.i0, .int .u8 r.x.i1, .int .u8 r.x.i2, .slice A n c]).below hb1 (by simp)
 have d12 := hv.cell 12 rfl
 have hb0 : Below w.heap.size w w1 := (below_alloc w (.cells #[.int .i64 r.k, .int .i64 r.pr, .int .i64 r.to, .int .i64 r.po, .int .i64 r.x.v, .int .i64 r.x.m, .int .u8 r.x.b0, .int .u8 r.x.b1, .int .u8 r.x.b2, .int .u8 r.x.i0, .int .u8 r.x.i1, .int .u8 r.x.i2, .slice A n c] 47)).trans (hb1.mono (by simp))
 clear hv hb1
 go_wp2_with fail
 refine (areOuts_any (h.below' hb0 hB) (by have := hb0.size; omega)).mono ?_
 rintro e w2 ⟨rfl, hb2⟩
 simp only [c0, c1, c2, c3, c4, c5]
 go_wp2_with fail
 rw [hp.out]
 go_ret
 exact ⟨rfl, hb0.trans (hb2.mono hb0.size)⟩
theorem isCtl_any {w : World} {B : Nat} {A : Option Addr} {n c : Nat} (r : RuleV) (h : Ro w B A n c r.os) (hB : B ≤ w.heap.size) : Calls Tryz.prog 251 #[.agg #[.int .i64 r.k, .int .i64 r.pr, .int .i64 r.to, .int .i64 r.po, .int .i64 r.x.v, .int .i64 r.x.m, .int .u8 r.x.b0, .int .u8 r.x.b1, .int .u8 r.x.b2, .int .u8 r.x.i0, .int .u8 r.x.i1, .int .u8 r.x.i2, .slice A n c]] w fun e w' => e = .returned (.bool (ctlBo r)) ∧ Below w.heap.size w w' := by
 have eM : ∀ w, (Op.equalIn 10000 44 (.agg #[.int .i64 r.x.v, .int .i64 r.x.m, .int .u8 r.x.b0, .int .u8 r.x.b1, .int .u8 r.x.b2, .int .u8 r.x.i0, .int .u8 r.x.i1, .int .u8 r.x.i2]) (.agg #[.int .i64 0, .int .i64 0, .int .u8 0, .int .u8 0, .int .u8 0, .int .u8 0, .int .u8 0, .int .u8 0])).run Tryz.prog w = .ok (zeroMB r.x) w := fun w => by rw [← eqMB_no]; exact eq_mask r.x noMask w
 by_cases c0 : (r.k == 2) = true
 rotate_left
 ·have c0' : (r.k == 2) = false := by simpa using c0
  clear c0
  have hp := Kp.mk (show ctlBo r = false by unfold ctlBo; rw [h.len, c0']; rfl)
  go_enter Tryz.func251, Tryz.ntmps251
  go_wp2_with (go_at_call 227; refine (inOrd_any _ _ _ _).mono ?_; rintro e w' ⟨rfl, rfl⟩; simp only [c0'])
  rw [hp.out]
  go_ret
  exact ⟨rfl, below_alloc w _⟩
 by_cases c1 : (inB r.to 0 6) = true
 rotate_left
 ·have c1' : (inB r.to 0 6) = false := by simpa using c1
  clear c1
  have hp := Kp.mk (show ctlBo r = false by unfold ctlBo; rw [h.len, c0, c1']; rfl)
  go_enter Tryz.func251, Tryz.ntmps251
  go_wp2_with (go_at_call 227; refine (inOrd_any _ _ _ _).mono ?_; rintro e w' ⟨rfl, rfl⟩; simp only [c0, c1'])
  rw [hp.out]
  go_ret
  exact ⟨rfl, below_alloc w _⟩
 by_cases c2 : (inB r.po 0 4) = true
 rotate_left
 ·have c2' : (inB r.po 0 4) = false := by simpa using c2
  clear c2
  have hp := Kp.mk (show ctlBo r = false by unfold ctlBo; rw [h.len, c0, c1, c2']; rfl)
  go_enter Tryz.func251, Tryz.ntmps251
  go_wp2_with (go_at_call 227; refine (inOrd_any _ _ _ _).mono ?_; rintro e w' ⟨rfl, rfl⟩; simp only [c0, c1, c2'])
  rw [hp.out]
  go_ret
  exact ⟨rfl, below_alloc w _⟩
 by_cases c3 : (r.pr == 0) = true
 rotate_left
 ·have c3' : (r.pr == 0) = false := by simpa using c3
  clear c3
  have hp := Kp.mk (show ctlBo r = false by unfold ctlBo; rw [h.len, c0, c1, c2, c3']; rfl)
  go_enter Tryz.func251, Tryz.ntmps251
  go_wp2_with (go_at_call 227; refine (inOrd_any _ _ _ _).mono ?_; rintro e w' ⟨rfl, rfl⟩; simp only [c0, c1, c2, c3'])
  rw [hp.out]
  go_ret
  exact ⟨rfl, below_alloc w _⟩
 by_cases c4 : (zeroMB r.x) = true
 rotate_left
 ·have c4' : (zeroMB r.x) = false := by simpa using c4
  clear c4
  have hp := Kp.mk (show ctlBo r = false by unfold ctlBo; rw [h.len, c0, c1, c2, c3, c4']; rfl)
  go_enter Tryz.func251, Tryz.ntmps251
  go_wp2_with (go_at_call 227; refine (inOrd_any _ _ _ _).mono ?_; rintro e w' ⟨rfl, rfl⟩; simp only [c0, c1, c2, c3, c4'])
  rw [hp.out]
  go_ret
  exact ⟨rfl, below_alloc w _⟩
 by_cases c5 : ((n : Int) == 0) = true
 rotate_left
 ·have c5' : ((n : Int) == 0) = false := by simpa using c5
  clear c5
  have hp := Kp.mk (show ctlBo r = false by unfold ctlBo; rw [h.len, c0, c1, c2, c3, c4, c5']; rfl)
  go_enter Tryz.func251, Tryz.ntmps251
  go_wp2_with (go_at_call 227; refine (inOrd_any _ _ _ _).mono ?_; rintro e w' ⟨rfl, rfl⟩; simp only [c0, c1, c2, c3, c4, c5'])
  rw [hp.out]
  go_ret
  exact ⟨rfl, below_alloc w _⟩
 have hp := Kp.mk (show ctlBo r = true by unfold ctlBo; rw [h.len, c0, c1, c2, c3, c4, c5]; rfl)
 go_enter Tryz.func251, Tryz.ntmps251
 go_wp2_with (go_at_call 227; refine (inOrd_any _ _ _ _).mono ?_; rintro e w' ⟨rfl, rfl⟩; simp only [c0, c1, c2, c3, c4, c5])
 rw [hp.out]
 go_ret
 exact ⟨rfl, below_alloc w _⟩
theorem isNone_any {w : World} {B : Nat} {A : Option Addr} {n c : Nat} (r : RuleV) (h : Ro w B A n c r.os) (hB : B ≤ w.heap.size) : Calls Tryz.prog 230 #[.agg #[.int .i64 r.k, .int .i64 r.pr, .int .i64 r.to, .int .i64 r.po, .int .i64 r.x.v, .int .i64 r.x.m, .int .u8 r.x.b0, .int .u8 r.x.b1, .int .u8 r.x.b2, .int .u8 r.x.i0, .int .u8 r.x.i1, .int .u8 r.x.i2, .slice A n c]] w fun e w' => e = .returned (.bool (noneBo r)) ∧ Below w.heap.size w w' := by
 have eM : ∀ w, (Op.equalIn 10000 44 (.agg #[.int .i64 r.x.v, .int .i64 r.x.m, .int .u8 r.x.b0, .int .u8 r.x.b1, .int .u8 r.x.b2, .int .u8 r.x.i0, .int .u8 r.x.i1, .int .u8 r.x.i2]) (.agg #[.int .i64 0, .int .i64 0, .int .u8 0, .int .u8 0, .int .u8 0, .int .u8 0, .int .u8 0, .int .u8 0])).run Tryz.prog w = .ok (zeroMB r.x) w := fun w => by rw [← eqMB_no]; exact eq_mask r.x noMask w
 by_cases c0 : (r.k == 0) = true
 rotate_left
 ·have c0' : (r.k == 0) = false := by simpa using c0
  clear c0
  have hp := Kp.mk (show noneBo r = false by unfold noneBo; rw [h.len, c0']; rfl)
  go_enter Tryz.func230, Tryz.ntmps230
  go_wp2_with fail
  rw [hp.out]
  go_ret
  exact ⟨rfl, below_alloc w _⟩
 by_cases c1 : (r.pr == 0) = true
 rotate_left
 ·have c1' : (r.pr == 0) = false := by simpa using c1
  clear c1
  have hp := Kp.mk (show noneBo r = false by unfold noneBo; rw [h.len, c0, c1']; rfl)
  go_enter Tryz.func230, Tryz.ntmps230
  go_wp2_with fail
  rw [hp.out]
  go_ret
  exact ⟨rfl, below_alloc w _⟩
 by_cases c2 : (r.to == 0) = true
 rotate_left
 ·have c2' : (r.to == 0) = false := by simpa using c2
  clear c2
  have hp := Kp.mk (show noneBo r = false by unfold noneBo; rw [h.len, c0, c1, c2']; rfl)
  go_enter Tryz.func230, Tryz.ntmps230
  go_wp2_with fail
  rw [hp.out]
  go_ret
  exact ⟨rfl, below_alloc w _⟩
 by_cases c3 : (r.po == 0) = true
 rotate_left
 ·have c3' : (r.po == 0) = false := by simpa using c3
  clear c3
  have hp := Kp.mk (show noneBo r = false by unfold noneBo; rw [h.len, c0, c1, c2, c3']; rfl)
  go_enter Tryz.func230, Tryz.ntmps230
  go_wp2_with fail
  rw [hp.out]
  go_ret
  exact ⟨rfl, below_alloc w _⟩
 by_cases c4 : (zeroMB r.x) = true
 rotate_left
 ·have c4' : (zeroMB r.x) = false := by simpa using c4
  clear c4
  have hp := Kp.mk (show noneBo r = false by unfold noneBo; rw [h.len, c0, c1, c2, c3, c4']; rfl)
  go_enter Tryz.func230, Tryz.ntmps230
  go_wp2_with fail
  rw [hp.out]
  go_ret
  exact ⟨rfl, below_alloc w _⟩
 by_cases c5 : ((n : Int) == 0) = true
 rotate_left
 ·have c5' : ((n : Int) == 0) = false := by simpa using c5
  clear c5
  have hp := Kp.mk (show noneBo r = false by unfold noneBo; rw [h.len, c0, c1, c2, c3, c4, c5']; rfl)
  go_enter Tryz.func230, Tryz.ntmps230
  go_wp2_with fail
  rw [hp.out]
  go_ret
  exact ⟨rfl, below_alloc w _⟩
 have hp := Kp.mk (show noneBo r = true by unfold noneBo; rw [h.len, c0, c1, c2, c3, c4, c5]; rfl)
 go_enter Tryz.func230, Tryz.ntmps230
 go_wp2_with fail
 rw [hp.out]
 go_ret
 exact ⟨rfl, below_alloc w _⟩
theorem ruleO_any {w : World} {B : Nat} {A : Option Addr} {n c : Nat} (r : RuleV) (h : Ro w B A n c r.os) (hB : B ≤ w.heap.size) : Calls Tryz.prog 228 #[.agg #[.int .i64 r.k, .int .i64 r.pr, .int .i64 r.to, .int .i64 r.po, .int .i64 r.x.v, .int .i64 r.x.m, .int .u8 r.x.b0, .int .u8 r.x.b1, .int .u8 r.x.b2, .int .u8 r.x.i0, .int .u8 r.x.i1, .int .u8 r.x.i2, .slice A n c]] w fun e w' => e = .returned (.int .i64 (checkR r)) ∧ Below w.heap.size w w' := by
 have hb0 := below_alloc w (.cells #[.int .i64 r.k, .int .i64 r.pr, .int .i64 r.to, .int .i64 r.po, .int .i64 r.x.v, .int .i64 r.x.m, .int .u8 r.x.b0, .int .u8 r.x.b1, .int .u8 r.x.b2, .int .u8 r.x.i0, .int .u8 r.x.i1, .int .u8 r.x.i2, .slice A n c] 47)
 by_cases c0 : dataBo r = true
 ·have hp := Kp.mk (show checkR r = 0 by rw [checkR_Bo, c0]; rfl)
  have HC := Kp.mk (fun (w0 : World) (hb : Below w.heap.size w w0) => isData_any r (h.below' hb hB) (by have := hb.size; omega))
  go_enter Tryz.func228, Tryz.ntmps228
  go_wp2_with fail
  refine (HC.out _ hb0).mono ?_
  rintro e w1 ⟨rfl, hb1⟩
  simp only [c0]
  go_wp2_with fail
  rw [hp.out]
  go_ret
  exact ⟨rfl, hb0.trans (hb1.mono (by simp))⟩
 ·have c0' : dataBo r = false := by simpa using c0
  clear c0
  by_cases c1 : ctlBo r = true
  ·have hp := Kp.mk (show checkR r = 0 by rw [checkR_Bo, c0', c1]; rfl)
   have HC := Kp.mk (fun (w0 : World) (hb : Below w.heap.size w w0) => isData_any r (h.below' hb hB) (by have := hb.size; omega))
   have HD := Kp.mk (fun (w0 : World) (hb : Below w.heap.size w w0) => isCtl_any r (h.below' hb hB) (by have := hb.size; omega))
   go_enter Tryz.func228, Tryz.ntmps228
   go_wp2_with fail
   refine (HC.out _ hb0).mono ?_
   rintro e w1 ⟨rfl, hb1⟩
   simp only [c0']
   have hv := (Vb.new 47 w [.int .i64 r.k, .int .i64 r.pr, .int .i64 r.to, .int .i64 r.po, .int .i64 r.x.v, .int .i64 r.x.m, .int .u8 r.x.b0, .int .u8 r.x.b1, .int .u8 r.x.b2, .int .u8 r.x.i0, .int .u8 r.x.i1, .int .u8 r.x.i2, .slice A n c]).below hb1 (by simp)
   obtain ⟨d0, d1, d2, d3, d4, d5, d6, d7, d8, d9, d10, d11, d12⟩ := hv.c13
   have hb2 := hb0.trans (hb1.mono (by simp))
   clear hv hb1
   go_wp2_with fail
   refine (HD.out _ hb2).mono ?_
   rintro e w2 ⟨rfl, hb3⟩
   simp only [c1]
   go_wp2_with fail
   rw [hp.out]
   go_ret
   exact ⟨rfl, hb2.trans (hb3.mono hb2.size)⟩
  ·have c1' : ctlBo r = false := by simpa using c1
   clear c1
   have hp := Kp.mk (show checkR r = 2 by rw [checkR_Bo, c0', c1']; rfl)
   have HC := Kp.mk (fun (w0 : World) (hb : Below w.heap.size w w0) => isData_any r (h.below' hb hB) (by have := hb.size; omega))
   have HD := Kp.mk (fun (w0 : World) (hb : Below w.heap.size w w0) => isCtl_any r (h.below' hb hB) (by have := hb.size; omega))
   go_enter Tryz.func228, Tryz.ntmps228
   go_wp2_with fail
   refine (HC.out _ hb0).mono ?_
   rintro e w1 ⟨rfl, hb1⟩
   simp only [c0']
   have hv := (Vb.new 47 w [.int .i64 r.k, .int .i64 r.pr, .int .i64 r.to, .int .i64 r.po, .int .i64 r.x.v, .int .i64 r.x.m, .int .u8 r.x.b0, .int .u8 r.x.b1, .int .u8 r.x.b2, .int .u8 r.x.i0, .int .u8 r.x.i1, .int .u8 r.x.i2, .slice A n c]).below hb1 (by simp)
   obtain ⟨d0, d1, d2, d3, d4, d5, d6, d7, d8, d9, d10, d11, d12⟩ := hv.c13
   have hb2 := hb0.trans (hb1.mono (by simp))
   clear hv hb1
   go_wp2_with fail
   refine (HD.out _ hb2).mono ?_
   rintro e w2 ⟨rfl, hb3⟩
   simp only [c1']
   go_wp2_with fail
   rw [hp.out]
   go_ret
   exact ⟨rfl, hb2.trans (hb3.mono hb2.size)⟩
structure NumV where
 at_ : Nat
 s : Int
 lo : Int
 hi : Int
def numsOf (k : Int) : List NumV :=
 if k = 4 then [⟨1, 1, 0, 200⟩] else if k = 5 then [⟨1, 1, 1, 4⟩, ⟨2, 2, 0, 65535⟩] else if k = 6 then [⟨1, 4, 0, 4294967295⟩] else if k = 7 then [⟨1, 4, 0, 4294967295⟩, ⟨2, 2, 0, 65535⟩] else
 if k = 9 then [⟨1, 1, 1, 4⟩, ⟨2, 1, 0, 1⟩] else []
def ruP (k : Int) (g : Nat) : Option Addr := if k = 2 ∨ k = 3 then some ⟨g, 3, none⟩ else none
def prP (k : Int) (g : Nat) : Option Addr := if k = 8 then some ⟨g, 16, none⟩ else none
def isK (k : Int) : Bool := decide (1 ≤ k ∧ k ≤ 9)
def Rn (w : World) (lo g : Nat) (A : Option Addr) (n : Nat) (us : List NumV) : Prop :=
 us.length = n ∧ n ≤ 2 ∧ (0 < n → ∃ b, A = some ⟨b, 0, none⟩ ∧ lo ≤ b ∧ b < w.heap.size ∧ ∀ j u, us[j]? = some u →
  w.cell? ⟨b, j * 4, none⟩ = some (.pointer (some ⟨g, u.at_, none⟩)) ∧ w.cell? ⟨b, j * 4 + 1, none⟩ = some (.int .i64 u.s) ∧ w.cell? ⟨b, j * 4 + 2, none⟩ = some (.int .i64 u.lo) ∧ w.cell? ⟨b, j * 4 + 3, none⟩ = some (.int .i64 u.hi))
theorem Rn.keep {w w' : World} {lo g n : Nat} {A : Option Addr} {us : List NumV} (h : Rn w lo g A n us) (hz : w.heap.size ≤ w'.heap.size) (hk : ∀ b, lo ≤ b → b < w.heap.size → w'.heap[b]? = w.heap[b]?) : Rn w' lo g A n us :=
 ⟨h.1, h.2.1, fun hn => by
  obtain ⟨b, e, h1, h2, hc⟩ := h.2.2 hn
  refine ⟨b, e, h1, by omega, fun j u hj => ?_⟩
  have := hc j u hj
  simp only [World.cell?_of_block (w := w) (w' := w') (a := ⟨b, _, none⟩) (hk b h1 h2)]
  exact this⟩
theorem Rn.below {w w' : World} {lo g n : Nat} {A : Option Addr} {us : List NumV} (h : Rn w lo g A n us) (hb : Below w.heap.size w w') : Rn w' lo g A n us := h.keep hb.size (fun b _ h2 => hb.block b h2)
theorem Rn.grown {w w' : World} {lo g n r : Nat} {A : Option Addr} {us : List NumV} (h : Rn w lo g A n us) (hg : w.grownBy w' (some r)) (hr : r < lo) : Rn w' lo g A n us := h.keep hg.size (fun b h1 h2 => hg.block b h2 (by simp; omega))
theorem Rn.lower {w : World} {lo lo' g n : Nat} {A : Option Addr} {us : List NumV} (h : Rn w lo g A n us) (hl : lo' ≤ lo) : Rn w lo' g A n us :=
 ⟨h.1, h.2.1, fun hn => by
  obtain ⟨b, e, h1, h2, hc⟩ := h.2.2 hn
  exact ⟨b, e, by omega, h2, hc⟩⟩
theorem Rn.nil (w : World) (lo g : Nat) : Rn w lo g none 0 [] := ⟨rfl, by omega, fun h => absurd h (by omega)⟩
theorem Rn.one {w : World} {lo g b : Nat} {u : NumV} (hv : Vb 245 w b [.pointer (some ⟨g, u.at_, none⟩), .int .i64 u.s, .int .i64 u.lo, .int .i64 u.hi]) (hl : lo ≤ b) : Rn w lo g (some ⟨b, 0, none⟩) 1 [u] :=
 ⟨rfl, by omega, fun _ => ⟨b, rfl, hl, hv.lt, fun j x hj => by
  match j, hj with
  | 0, hj => simp at hj; subst hj; exact ⟨hv.cell 0 rfl, hv.cell 1 rfl, hv.cell 2 rfl, hv.cell 3 rfl⟩⟩⟩
theorem Rn.two {w : World} {lo g b : Nat} {u v : NumV} (hv : Vb 245 w b [.pointer (some ⟨g, u.at_, none⟩), .int .i64 u.s, .int .i64 u.lo, .int .i64 u.hi, .pointer (some ⟨g, v.at_, none⟩), .int .i64 v.s, .int .i64 v.lo, .int .i64 v.hi]) (hl : lo ≤ b) : Rn w lo g (some ⟨b, 0, none⟩) 2 [u, v] :=
 ⟨rfl, by omega, fun _ => ⟨b, rfl, hl, hv.lt, fun j x hj => by
  match j, hj with
  | 0, hj => simp at hj; subst hj; exact ⟨hv.cell 0 rfl, hv.cell 1 rfl, hv.cell 2 rfl, hv.cell 3 rfl⟩
  | 1, hj => simp at hj; subst hj; exact ⟨hv.cell 4 rfl, hv.cell 5 rfl, hv.cell 6 rfl, hv.cell 7 rfl⟩⟩⟩
def PartsIs (k : Int) (g : Nat) (w : World) (e : Ending) (w' : World) : Prop :=
 ∃ A n, e = .returned (.agg #[.slice A n n, .pointer (ruP k g), .pointer (prP k g)]) ∧ Rn w' w.heap.size g A n (numsOf k) ∧ Below w.heap.size w w'
def PartsAre (k : Int) (g : Nat) (w : World) (e : Ending) (w' : World) : Prop :=
 ∃ A n, e = .returned (.tuple #[.agg #[.slice A n n, .pointer (ruP k g), .pointer (prP k g)], .bool (isK k)]) ∧ Rn w' w.heap.size g A n (numsOf k) ∧ Below w.heap.size w w'
def mapE : List (Int × Nat) → Nat → List MapEntry
 | [], _ => []
 | (k, f) :: r, i => ⟨.int .i64 k, .func (.func f) #[] #[], i⟩ :: mapE r (i + 1)
def mapW (w : World) (es : List (Int × Nat)) : World := w.alloc (.map (mapE es 0).toArray es.length)
theorem run_mk (w : World) : (Instr.makeMap 243 none).run Tryz.prog w = .ok (.map (some w.heap.size)) (mapW w []) := rfl
theorem mapE_snoc (k : Int) (f : Nat) : ∀ (es : List (Int × Nat)) (i : Nat), mapE (es ++ [(k, f)]) i = mapE es i ++ [⟨.int .i64 k, .func (.func f) #[] #[], i + es.length⟩]
 | [], i => rfl
 | (k', f') :: r, i => by
  show _ :: mapE (r ++ [(k, f)]) (i + 1) = _
  rw [mapE_snoc k f r (i + 1)]
  simp only [List.length_cons, List.cons_append, mapE]
  rw [show i + 1 + r.length = i + (r.length + 1) from by omega]
theorem run_in (w : World) (es : List (Int × Nat)) (k : Int) (f : Nat) (hk : Instr.findNow (.int .i64) (.int .i64 k) (mapE es 0) 0 = some none) :
  (Instr.mapUpdate 243 (.map (some w.heap.size)) (.int .i64 k) (.func (.func f) #[] #[])).run Tryz.prog (mapW w es) = .ok () (mapW w (es ++ [(k, f)])) := by
 have hb : (mapW w es).heap[w.heap.size]? = some (.map (mapE es 0).toArray es.length) := (MapKept.heap_alloc w _).1
 have e : ({ (mapW w es) with heap := (mapW w es).heap.setIfInBounds w.heap.size (.map ((mapE es 0).toArray.push ⟨.int .i64 k, .func (.func f) #[] #[], es.length⟩) (es.length + 1)) } : World) = mapW w (es ++ [(k, f)]) := by
  have ea : (w.heap.push (Obj.map (mapE es 0).toArray es.length)).setIfInBounds w.heap.size (Obj.map ((mapE es 0).toArray.push ⟨.int .i64 k, .func (.func f) #[] #[], es.length⟩) (es.length + 1)) = w.heap.push (Obj.map (mapE (es ++ [(k, f)]) 0).toArray (es ++ [(k, f)]).length) := by
   apply Array.ext'
   simp [mapE_snoc]
  unfold mapW World.alloc
  simp only [ea]
 rw [← e]
 simp [Instr.mapUpdate, run_underlying Tryz.underlying243, MapKept.run_getObj_map hb, MapKept.run_checkKey Tryz.underlying3 (show MapKept.IsKey (.int .i64) (.int .i64 k) from rfl), MapKept.run_findKey Tryz.underlying3 hk, MapKept.run_setObj_map _ hb, Result.andThen]
theorem run_look (w : World) (es : List (Int × Nat)) (k : Int) (r : Option (Nat × Value)) (hk : Instr.findNow (.int .i64) (.int .i64 k) (mapE es 0) 0 = some r) :
  (Instr.lookup 243 (.map (some w.heap.size)) (.int .i64 k) true).run Tryz.prog (mapW w es) = .ok (.tuple #[(match r with | some x => x.2 | none => .nilFunc), .bool r.isSome]) (mapW w es) := by
 have hb : (mapW w es).heap[w.heap.size]? = some (.map (mapE es 0).toArray es.length) := (MapKept.heap_alloc w _).1
 have hz : (zeroValue 240).run Tryz.prog (mapW w es) = .ok (.nilFunc) (mapW w es) := by kernel_rfl
 cases r with
 | none => simp [Instr.lookup, run_underlying Tryz.underlying243, MapKept.run_getObj_map hb, MapKept.run_checkKey Tryz.underlying3 (show MapKept.IsKey (.int .i64) (.int .i64 k) from rfl), MapKept.run_findKey Tryz.underlying3 hk, hz, Result.andThen]
 | some x => simp [Instr.lookup, run_underlying Tryz.underlying243, MapKept.run_getObj_map hb, MapKept.run_checkKey Tryz.underlying3 (show MapKept.IsKey (.int .i64) (.int .i64 k) from rfl), MapKept.run_findKey Tryz.underlying3 hk, Result.andThen]
theorem m_nothing (g : Nat) (w : World) : Calls Tryz.prog 192 #[.pointer (some ⟨g, 0, none⟩)] w (PartsIs 1 g w) := by
 go_enter Tryz.func192, Tryz.ntmps192
 go_wp2_with fail
 refine bodyPost_ret (v := .agg #[.slice none 0 0, .pointer none, .pointer none]) (by simp [results, Tryz.results192, go_sem]) rfl ?_
 exact ⟨none, 0, rfl, Rn.nil _ _ _, below_alloc w _⟩
theorem m_rule (g : Nat) (w : World) (k : Int) (hk : k = 2 ∨ k = 3) : Calls Tryz.prog 193 #[.pointer (some ⟨g, 0, none⟩)] w (PartsIs k g w) := by
 have hr : ruP k g = some ⟨g, 3, none⟩ := if_pos hk
 have hq : prP k g = none := if_neg (by omega)
 have hn : numsOf k = [] := by unfold numsOf; rw [if_neg (by omega), if_neg (by omega), if_neg (by omega), if_neg (by omega), if_neg (by omega)]
 have HR := Kp.mk (And.intro hr (And.intro hq hn))
 clear hr hq hn hk
 go_enter Tryz.func193, Tryz.ntmps193
 go_wp2_with fail
 refine bodyPost_ret (v := .agg #[.slice none 0 0, .pointer (some ⟨g, 3, none⟩), .pointer none]) (by simp [results, Tryz.results193, go_sem]) rfl ?_
 refine ⟨none, 0, by rw [HR.out.1, HR.out.2.1], by rw [HR.out.2.2]; exact Rn.nil _ _ _, below_alloc w _⟩
theorem m_tag (g : Nat) (w : World) : Calls Tryz.prog 194 #[.pointer (some ⟨g, 0, none⟩)] w (PartsIs 4 g w) := by
 go_enter Tryz.func194, Tryz.ntmps194
 go_wp2_with fail
 have hv := Vb.new 245 (w.alloc (.cells #[.slice (some ⟨w.heap.size + 1, 0, none⟩) 1 1, .pointer none, .pointer none] 211)) [.pointer (some ⟨g, 1, none⟩), .int .i64 1, .int .i64 0, .int .i64 200]
 rw [alloc_size] at hv
 refine bodyPost_ret (v := .agg #[.slice (some ⟨w.heap.size + 1, 0, none⟩) 1 1, .pointer none, .pointer none]) (by simp [results, Tryz.results194, go_sem]) rfl ?_
 exact ⟨_, 1, rfl, Rn.one (u := ⟨1, 1, 0, 200⟩) hv (by omega), below_two w _ _⟩
theorem m_probe (g : Nat) (w : World) : Calls Tryz.prog 195 #[.pointer (some ⟨g, 0, none⟩)] w (PartsIs 5 g w) := by
 go_enter Tryz.func195, Tryz.ntmps195
 go_wp2_with fail
 go_region
 all_goals go_wp2_with fail
 have hv := Vb.new 245 (w.alloc (.cells #[.slice (some ⟨w.heap.size + 1, 0, none⟩) 2 2, .pointer none, .pointer none] 211)) [.pointer (some ⟨g, 1, none⟩), .int .i64 1, .int .i64 1, .int .i64 4, .pointer (some ⟨g, 2, none⟩), .int .i64 2, .int .i64 0, .int .i64 65535]
 rw [alloc_size] at hv
 refine bodyPost_ret (v := .agg #[.slice (some ⟨w.heap.size + 1, 0, none⟩) 2 2, .pointer none, .pointer none]) (by simp [results, Tryz.results195, go_sem]) rfl ?_
 exact ⟨_, 2, rfl, Rn.two (u := ⟨1, 1, 1, 4⟩) (v := ⟨2, 2, 0, 65535⟩) (show Vb 245 _ _ _ from hv) (by omega), (below_two w _ _).drew⟩
theorem m_barrier (g : Nat) (w : World) : Calls Tryz.prog 196 #[.pointer (some ⟨g, 0, none⟩)] w (PartsIs 6 g w) := by
 go_enter Tryz.func196, Tryz.ntmps196
 go_wp2_with fail
 have hv := Vb.new 245 (w.alloc (.cells #[.slice (some ⟨w.heap.size + 1, 0, none⟩) 1 1, .pointer none, .pointer none] 211)) [.pointer (some ⟨g, 1, none⟩), .int .i64 4, .int .i64 0, .int .i64 4294967295]
 rw [alloc_size] at hv
 refine bodyPost_ret (v := .agg #[.slice (some ⟨w.heap.size + 1, 0, none⟩) 1 1, .pointer none, .pointer none]) (by simp [results, Tryz.results196, go_sem]) rfl ?_
 exact ⟨_, 1, rfl, Rn.one (u := ⟨1, 4, 0, 4294967295⟩) hv (by omega), below_two w _ _⟩
theorem m_done (g : Nat) (w : World) : Calls Tryz.prog 197 #[.pointer (some ⟨g, 0, none⟩)] w (PartsIs 7 g w) := by
 go_enter Tryz.func197, Tryz.ntmps197
 go_wp2_with fail
 go_region
 all_goals go_wp2_with fail
 have hv := Vb.new 245 (w.alloc (.cells #[.slice (some ⟨w.heap.size + 1, 0, none⟩) 2 2, .pointer none, .pointer none] 211)) [.pointer (some ⟨g, 1, none⟩), .int .i64 4, .int .i64 0, .int .i64 4294967295, .pointer (some ⟨g, 2, none⟩), .int .i64 2, .int .i64 0, .int .i64 65535]
 rw [alloc_size] at hv
 refine bodyPost_ret (v := .agg #[.slice (some ⟨w.heap.size + 1, 0, none⟩) 2 2, .pointer none, .pointer none]) (by simp [results, Tryz.results197, go_sem]) rfl ?_
 exact ⟨_, 2, rfl, Rn.two (u := ⟨1, 4, 0, 4294967295⟩) (v := ⟨2, 2, 0, 65535⟩) (show Vb 245 _ _ _ from hv) (by omega), (below_two w _ _).drew⟩
theorem m_link (g : Nat) (w : World) : Calls Tryz.prog 198 #[.pointer (some ⟨g, 0, none⟩)] w (PartsIs 8 g w) := by
 go_enter Tryz.func198, Tryz.ntmps198
 go_wp2_with fail
 refine bodyPost_ret (v := .agg #[.slice none 0 0, .pointer none, .pointer (some ⟨g, 16, none⟩)]) (by simp [results, Tryz.results198, go_sem]) rfl ?_
 exact ⟨none, 0, rfl, Rn.nil _ _ _, below_alloc w _⟩
theorem m_port (g : Nat) (w : World) : Calls Tryz.prog 199 #[.pointer (some ⟨g, 0, none⟩)] w (PartsIs 9 g w) := by
 go_enter Tryz.func199, Tryz.ntmps199
 go_wp2_with fail
 go_region
 all_goals go_wp2_with fail
 have hv := Vb.new 245 (w.alloc (.cells #[.slice (some ⟨w.heap.size + 1, 0, none⟩) 2 2, .pointer none, .pointer none] 211)) [.pointer (some ⟨g, 1, none⟩), .int .i64 1, .int .i64 1, .int .i64 4, .pointer (some ⟨g, 2, none⟩), .int .i64 1, .int .i64 0, .int .i64 1]
 rw [alloc_size] at hv
 refine bodyPost_ret (v := .agg #[.slice (some ⟨w.heap.size + 1, 0, none⟩) 2 2, .pointer none, .pointer none]) (by simp [results, Tryz.results199, go_sem]) rfl ?_
 exact ⟨_, 2, rfl, Rn.two (u := ⟨1, 1, 1, 4⟩) (v := ⟨2, 1, 0, 1⟩) (show Vb 245 _ _ _ from hv) (by omega), (below_two w _ _).drew⟩
def mapAll (w : World) : World := mapW (w.alloc (.cells #[.slice none 0 0, .pointer none, .pointer none] 211)) [(1, 192), (2, 193), (3, 193), (4, 194), (5, 195), (6, 196), (7, 197), (8, 198), (9, 199)]
theorem mapAll_below (w : World) : Below w.heap.size w (mapAll w) := below_two w _ _
theorem mapAll_size (w : World) : (mapAll w).heap.size = w.heap.size + 2 := by simp [mapAll, mapW]
theorem mapAll_cells (w : World) : Vb 211 (mapAll w) w.heap.size [.slice none 0 0, .pointer none, .pointer none] := (Vb.new 211 w [.slice none 0 0, .pointer none, .pointer none]).alloc _
theorem map_made (w : World) : (Instr.makeMap 243 none).run Tryz.prog (w.alloc (.cells #[.slice none 0 0, .pointer none, .pointer none] 211)) = .ok (.map (some (w.heap.size + 1))) (mapW (w.alloc (.cells #[.slice none 0 0, .pointer none, .pointer none] 211)) []) := by
 rw [run_mk, alloc_size]
theorem map_in1 (w : World) : (Instr.mapUpdate 243 (.map (some (w.heap.size + 1))) (.int .i64 1) (.func (.func 192) #[] #[])).run Tryz.prog (mapW (w.alloc (.cells #[.slice none 0 0, .pointer none, .pointer none] 211)) []) = .ok () (mapW (w.alloc (.cells #[.slice none 0 0, .pointer none, .pointer none] 211)) [(1, 192)]) := by
 have := run_in (w.alloc (.cells #[.slice none 0 0, .pointer none, .pointer none] 211)) [] 1 192 (by kernel_rfl)
 rw [alloc_size] at this
 exact this
theorem map_in2 (w : World) : (Instr.mapUpdate 243 (.map (some (w.heap.size + 1))) (.int .i64 2) (.func (.func 193) #[] #[])).run Tryz.prog (mapW (w.alloc (.cells #[.slice none 0 0, .pointer none, .pointer none] 211)) [(1, 192)]) = .ok () (mapW (w.alloc (.cells #[.slice none 0 0, .pointer none, .pointer none] 211)) [(1, 192), (2, 193)]) := by
 have := run_in (w.alloc (.cells #[.slice none 0 0, .pointer none, .pointer none] 211)) [(1, 192)] 2 193 (by kernel_rfl)
 rw [alloc_size] at this
 exact this
theorem map_in3 (w : World) : (Instr.mapUpdate 243 (.map (some (w.heap.size + 1))) (.int .i64 3) (.func (.func 193) #[] #[])).run Tryz.prog (mapW (w.alloc (.cells #[.slice none 0 0, .pointer none, .pointer none] 211)) [(1, 192), (2, 193)]) = .ok () (mapW (w.alloc (.cells #[.slice none 0 0, .pointer none, .pointer none] 211)) [(1, 192), (2, 193), (3, 193)]) := by
 have := run_in (w.alloc (.cells #[.slice none 0 0, .pointer none, .pointer none] 211)) [(1, 192), (2, 193)] 3 193 (by kernel_rfl)
 rw [alloc_size] at this
 exact this
theorem map_in4 (w : World) : (Instr.mapUpdate 243 (.map (some (w.heap.size + 1))) (.int .i64 4) (.func (.func 194) #[] #[])).run Tryz.prog (mapW (w.alloc (.cells #[.slice none 0 0, .pointer none, .pointer none] 211)) [(1, 192), (2, 193), (3, 193)]) = .ok () (mapW (w.alloc (.cells #[.slice none 0 0, .pointer none, .pointer none] 211)) [(1, 192), (2, 193), (3, 193), (4, 194)]) := by
 have := run_in (w.alloc (.cells #[.slice none 0 0, .pointer none, .pointer none] 211)) [(1, 192), (2, 193), (3, 193)] 4 194 (by kernel_rfl)
 rw [alloc_size] at this
 exact this
theorem map_in5 (w : World) : (Instr.mapUpdate 243 (.map (some (w.heap.size + 1))) (.int .i64 5) (.func (.func 195) #[] #[])).run Tryz.prog (mapW (w.alloc (.cells #[.slice none 0 0, .pointer none, .pointer none] 211)) [(1, 192), (2, 193), (3, 193), (4, 194)]) = .ok () (mapW (w.alloc (.cells #[.slice none 0 0, .pointer none, .pointer none] 211)) [(1, 192), (2, 193), (3, 193), (4, 194), (5, 195)]) := by
 have := run_in (w.alloc (.cells #[.slice none 0 0, .pointer none, .pointer none] 211)) [(1, 192), (2, 193), (3, 193), (4, 194)] 5 195 (by kernel_rfl)
 rw [alloc_size] at this
 exact this
theorem map_in6 (w : World) : (Instr.mapUpdate 243 (.map (some (w.heap.size + 1))) (.int .i64 6) (.func (.func 196) #[] #[])).run Tryz.prog (mapW (w.alloc (.cells #[.slice none 0 0, .pointer none, .pointer none] 211)) [(1, 192), (2, 193), (3, 193), (4, 194), (5, 195)]) = .ok () (mapW (w.alloc (.cells #[.slice none 0 0, .pointer none, .pointer none] 211)) [(1, 192), (2, 193), (3, 193), (4, 194), (5, 195), (6, 196)]) := by
 have := run_in (w.alloc (.cells #[.slice none 0 0, .pointer none, .pointer none] 211)) [(1, 192), (2, 193), (3, 193), (4, 194), (5, 195)] 6 196 (by kernel_rfl)
 rw [alloc_size] at this
 exact this
theorem map_in7 (w : World) : (Instr.mapUpdate 243 (.map (some (w.heap.size + 1))) (.int .i64 7) (.func (.func 197) #[] #[])).run Tryz.prog (mapW (w.alloc (.cells #[.slice none 0 0, .pointer none, .pointer none] 211)) [(1, 192), (2, 193), (3, 193), (4, 194), (5, 195), (6, 196)]) = .ok () (mapW (w.alloc (.cells #[.slice none 0 0, .pointer none, .pointer none] 211)) [(1, 192), (2, 193), (3, 193), (4, 194), (5, 195), (6, 196), (7, 197)]) := by
 have := run_in (w.alloc (.cells #[.slice none 0 0, .pointer none, .pointer none] 211)) [(1, 192), (2, 193), (3, 193), (4, 194), (5, 195), (6, 196)] 7 197 (by kernel_rfl)
 rw [alloc_size] at this
 exact this
theorem map_in8 (w : World) : (Instr.mapUpdate 243 (.map (some (w.heap.size + 1))) (.int .i64 8) (.func (.func 198) #[] #[])).run Tryz.prog (mapW (w.alloc (.cells #[.slice none 0 0, .pointer none, .pointer none] 211)) [(1, 192), (2, 193), (3, 193), (4, 194), (5, 195), (6, 196), (7, 197)]) = .ok () (mapW (w.alloc (.cells #[.slice none 0 0, .pointer none, .pointer none] 211)) [(1, 192), (2, 193), (3, 193), (4, 194), (5, 195), (6, 196), (7, 197), (8, 198)]) := by
 have := run_in (w.alloc (.cells #[.slice none 0 0, .pointer none, .pointer none] 211)) [(1, 192), (2, 193), (3, 193), (4, 194), (5, 195), (6, 196), (7, 197)] 8 198 (by kernel_rfl)
 rw [alloc_size] at this
 exact this
theorem map_in9 (w : World) : (Instr.mapUpdate 243 (.map (some (w.heap.size + 1))) (.int .i64 9) (.func (.func 199) #[] #[])).run Tryz.prog (mapW (w.alloc (.cells #[.slice none 0 0, .pointer none, .pointer none] 211)) [(1, 192), (2, 193), (3, 193), (4, 194), (5, 195), (6, 196), (7, 197), (8, 198)]) = .ok () (mapAll w) := by
 have := run_in (w.alloc (.cells #[.slice none 0 0, .pointer none, .pointer none] 211)) [(1, 192), (2, 193), (3, 193), (4, 194), (5, 195), (6, 196), (7, 197), (8, 198)] 9 199 (by kernel_rfl)
 rw [alloc_size] at this
 exact this
theorem map_look1 (w : World) : (Instr.lookup 243 (.map (some (w.heap.size + 1))) (.int .i64 1) true).run Tryz.prog (mapAll w) = .ok (.tuple #[.func (.func 192) #[] #[], .bool true]) (mapAll w) := by
 have := run_look (w.alloc (.cells #[.slice none 0 0, .pointer none, .pointer none] 211)) [(1, 192), (2, 193), (3, 193), (4, 194), (5, 195), (6, 196), (7, 197), (8, 198), (9, 199)] 1 (some (0, .func (.func 192) #[] #[])) (by kernel_rfl)
 rw [alloc_size] at this
 exact this
theorem map_look2 (w : World) : (Instr.lookup 243 (.map (some (w.heap.size + 1))) (.int .i64 2) true).run Tryz.prog (mapAll w) = .ok (.tuple #[.func (.func 193) #[] #[], .bool true]) (mapAll w) := by
 have := run_look (w.alloc (.cells #[.slice none 0 0, .pointer none, .pointer none] 211)) [(1, 192), (2, 193), (3, 193), (4, 194), (5, 195), (6, 196), (7, 197), (8, 198), (9, 199)] 2 (some (1, .func (.func 193) #[] #[])) (by kernel_rfl)
 rw [alloc_size] at this
 exact this
theorem map_look3 (w : World) : (Instr.lookup 243 (.map (some (w.heap.size + 1))) (.int .i64 3) true).run Tryz.prog (mapAll w) = .ok (.tuple #[.func (.func 193) #[] #[], .bool true]) (mapAll w) := by
 have := run_look (w.alloc (.cells #[.slice none 0 0, .pointer none, .pointer none] 211)) [(1, 192), (2, 193), (3, 193), (4, 194), (5, 195), (6, 196), (7, 197), (8, 198), (9, 199)] 3 (some (2, .func (.func 193) #[] #[])) (by kernel_rfl)
 rw [alloc_size] at this
 exact this
theorem map_look4 (w : World) : (Instr.lookup 243 (.map (some (w.heap.size + 1))) (.int .i64 4) true).run Tryz.prog (mapAll w) = .ok (.tuple #[.func (.func 194) #[] #[], .bool true]) (mapAll w) := by
 have := run_look (w.alloc (.cells #[.slice none 0 0, .pointer none, .pointer none] 211)) [(1, 192), (2, 193), (3, 193), (4, 194), (5, 195), (6, 196), (7, 197), (8, 198), (9, 199)] 4 (some (3, .func (.func 194) #[] #[])) (by kernel_rfl)
 rw [alloc_size] at this
 exact this
theorem map_look5 (w : World) : (Instr.lookup 243 (.map (some (w.heap.size + 1))) (.int .i64 5) true).run Tryz.prog (mapAll w) = .ok (.tuple #[.func (.func 195) #[] #[], .bool true]) (mapAll w) := by
 have := run_look (w.alloc (.cells #[.slice none 0 0, .pointer none, .pointer none] 211)) [(1, 192), (2, 193), (3, 193), (4, 194), (5, 195), (6, 196), (7, 197), (8, 198), (9, 199)] 5 (some (4, .func (.func 195) #[] #[])) (by kernel_rfl)
 rw [alloc_size] at this
 exact this
theorem map_look6 (w : World) : (Instr.lookup 243 (.map (some (w.heap.size + 1))) (.int .i64 6) true).run Tryz.prog (mapAll w) = .ok (.tuple #[.func (.func 196) #[] #[], .bool true]) (mapAll w) := by
 have := run_look (w.alloc (.cells #[.slice none 0 0, .pointer none, .pointer none] 211)) [(1, 192), (2, 193), (3, 193), (4, 194), (5, 195), (6, 196), (7, 197), (8, 198), (9, 199)] 6 (some (5, .func (.func 196) #[] #[])) (by kernel_rfl)
 rw [alloc_size] at this
 exact this
theorem map_look7 (w : World) : (Instr.lookup 243 (.map (some (w.heap.size + 1))) (.int .i64 7) true).run Tryz.prog (mapAll w) = .ok (.tuple #[.func (.func 197) #[] #[], .bool true]) (mapAll w) := by
 have := run_look (w.alloc (.cells #[.slice none 0 0, .pointer none, .pointer none] 211)) [(1, 192), (2, 193), (3, 193), (4, 194), (5, 195), (6, 196), (7, 197), (8, 198), (9, 199)] 7 (some (6, .func (.func 197) #[] #[])) (by kernel_rfl)
 rw [alloc_size] at this
 exact this
theorem map_look8 (w : World) : (Instr.lookup 243 (.map (some (w.heap.size + 1))) (.int .i64 8) true).run Tryz.prog (mapAll w) = .ok (.tuple #[.func (.func 198) #[] #[], .bool true]) (mapAll w) := by
 have := run_look (w.alloc (.cells #[.slice none 0 0, .pointer none, .pointer none] 211)) [(1, 192), (2, 193), (3, 193), (4, 194), (5, 195), (6, 196), (7, 197), (8, 198), (9, 199)] 8 (some (7, .func (.func 198) #[] #[])) (by kernel_rfl)
 rw [alloc_size] at this
 exact this
theorem map_look9 (w : World) : (Instr.lookup 243 (.map (some (w.heap.size + 1))) (.int .i64 9) true).run Tryz.prog (mapAll w) = .ok (.tuple #[.func (.func 199) #[] #[], .bool true]) (mapAll w) := by
 have := run_look (w.alloc (.cells #[.slice none 0 0, .pointer none, .pointer none] 211)) [(1, 192), (2, 193), (3, 193), (4, 194), (5, 195), (6, 196), (7, 197), (8, 198), (9, 199)] 9 (some (8, .func (.func 199) #[] #[])) (by kernel_rfl)
 rw [alloc_size] at this
 exact this
theorem map_look0 (w : World) (k : Int) (hk : k < 1 ∨ 9 < k) : (Instr.lookup 243 (.map (some (w.heap.size + 1))) (.int .i64 k) true).run Tryz.prog (mapAll w) = .ok (.tuple #[.nilFunc, .bool false]) (mapAll w) := by
 have e1 : (k == 1) = false := beq_eq_false_iff_ne.2 (by omega)
 have e2 : (k == 2) = false := beq_eq_false_iff_ne.2 (by omega)
 have e3 : (k == 3) = false := beq_eq_false_iff_ne.2 (by omega)
 have e4 : (k == 4) = false := beq_eq_false_iff_ne.2 (by omega)
 have e5 : (k == 5) = false := beq_eq_false_iff_ne.2 (by omega)
 have e6 : (k == 6) = false := beq_eq_false_iff_ne.2 (by omega)
 have e7 : (k == 7) = false := beq_eq_false_iff_ne.2 (by omega)
 have e8 : (k == 8) = false := beq_eq_false_iff_ne.2 (by omega)
 have e9 : (k == 9) = false := beq_eq_false_iff_ne.2 (by omega)
 have := run_look (w.alloc (.cells #[.slice none 0 0, .pointer none, .pointer none] 211)) [(1, 192), (2, 193), (3, 193), (4, 194), (5, 195), (6, 196), (7, 197), (8, 198), (9, 199)] k none (by simp [Instr.findNow, Instr.sameNow, mapE, e1, e2, e3, e4, e5, e6, e7, e8, e9])
 rw [alloc_size] at this
 exact this
theorem isK_no {k : Int} (h : k < 1 ∨ 9 < k) : isK k = false := decide_eq_false (by omega)
theorem kind_none {k : Int} (g : Nat) (h : k < 1 ∨ 9 < k) : ruP k g = none ∧ prP k g = none ∧ numsOf k = [] := by
 refine ⟨if_neg (by omega), if_neg (by omega), ?_⟩
 unfold numsOf
 rw [if_neg (by omega), if_neg (by omega), if_neg (by omega), if_neg (by omega), if_neg (by omega)]
theorem partsOf_1 (g : Nat) (w : World) (hc : w.cell? ⟨g, 0, none⟩ = some (.int .i64 1)) : Calls Tryz.prog 155 #[.pointer (some ⟨g, 0, none⟩)] w (PartsAre 1 g w) := by
 have hg := World.block_lt_of_cell? w _ hc
 simp only at hg
 have hcA : (mapAll w).cell? ⟨g, 0, none⟩ = some (.int .i64 1) := cell_below hc hg (mapAll_below w)
 have hm := map_made w
 have h1 := map_in1 w
 have h2 := map_in2 w
 have h3 := map_in3 w
 have h4 := map_in4 w
 have h5 := map_in5 w
 have h6 := map_in6 w
 have h7 := map_in7 w
 have h8 := map_in8 w
 have h9 := map_in9 w
 have hl := map_look1 w
 go_enter Tryz.func155, Tryz.ntmps155
 go_wp2_with fail
 refine (m_nothing g _).mono ?_
 have hb0 := mapAll_below w
 have hz0 := mapAll_size w
 have hv0 := mapAll_cells w
 generalize mapAll w = wm at *
 rintro e w1 ⟨A, n, rfl, hR, hb1⟩
 have hv1 := hv0.below hb1 (by omega)
 have hz1 := hb1.size
 obtain ⟨d0, d1, d2⟩ := hv1.c3
 have hf := hv1.free
 clear hm h1 h2 h3 h4 h5 h6 h7 h8 h9 hl hcA
 go_wp2_with fail
 have hv2 := hv1.putC [.slice A n n, .pointer (ruP 1 g), .pointer (prP 1 g)] 0
 have hg2 := putC_grown w.heap.size [.slice A n n, .pointer (ruP 1 g), .pointer (prP 1 g)] w1 0
 have hB2 := putC_below (Nat.le_refl w.heap.size) [.slice A n n, .pointer (ruP 1 g), .pointer (prP 1 g)] 0 (hb0.trans (hb1.mono (by omega)))
 change bodyPost _ _ _ _ _ (putC w1 w.heap.size 0 [.slice A n n, .pointer (ruP 1 g), .pointer (prP 1 g)])
 generalize putC w1 w.heap.size 0 [.slice A n n, .pointer (ruP 1 g), .pointer (prP 1 g)] = w2 at *
 clear d0 d1 d2 hf
 obtain ⟨d0, d1, d2⟩ := hv2.c3
 refine bodyPost_ret (v := .tuple #[.agg #[.slice A n n, .pointer (ruP 1 g), .pointer (prP 1 g)], .bool true]) (by simp [results, Tryz.results155, go_sem, d0, d1, d2]) rfl ?_
 exact ⟨A, n, rfl, (hR.grown hg2 (by omega)).lower (by omega), hB2⟩
theorem partsOf_2 (g : Nat) (w : World) (hc : w.cell? ⟨g, 0, none⟩ = some (.int .i64 2)) : Calls Tryz.prog 155 #[.pointer (some ⟨g, 0, none⟩)] w (PartsAre 2 g w) := by
 have hg := World.block_lt_of_cell? w _ hc
 simp only at hg
 have hcA : (mapAll w).cell? ⟨g, 0, none⟩ = some (.int .i64 2) := cell_below hc hg (mapAll_below w)
 have hm := map_made w
 have h1 := map_in1 w
 have h2 := map_in2 w
 have h3 := map_in3 w
 have h4 := map_in4 w
 have h5 := map_in5 w
 have h6 := map_in6 w
 have h7 := map_in7 w
 have h8 := map_in8 w
 have h9 := map_in9 w
 have hl := map_look2 w
 go_enter Tryz.func155, Tryz.ntmps155
 go_wp2_with fail
 refine (m_rule g _ 2 (by omega)).mono ?_
 have hb0 := mapAll_below w
 have hz0 := mapAll_size w
 have hv0 := mapAll_cells w
 generalize mapAll w = wm at *
 rintro e w1 ⟨A, n, rfl, hR, hb1⟩
 have hv1 := hv0.below hb1 (by omega)
 have hz1 := hb1.size
 obtain ⟨d0, d1, d2⟩ := hv1.c3
 have hf := hv1.free
 clear hm h1 h2 h3 h4 h5 h6 h7 h8 h9 hl hcA
 go_wp2_with fail
 have hv2 := hv1.putC [.slice A n n, .pointer (ruP 2 g), .pointer (prP 2 g)] 0
 have hg2 := putC_grown w.heap.size [.slice A n n, .pointer (ruP 2 g), .pointer (prP 2 g)] w1 0
 have hB2 := putC_below (Nat.le_refl w.heap.size) [.slice A n n, .pointer (ruP 2 g), .pointer (prP 2 g)] 0 (hb0.trans (hb1.mono (by omega)))
 change bodyPost _ _ _ _ _ (putC w1 w.heap.size 0 [.slice A n n, .pointer (ruP 2 g), .pointer (prP 2 g)])
 generalize putC w1 w.heap.size 0 [.slice A n n, .pointer (ruP 2 g), .pointer (prP 2 g)] = w2 at *
 clear d0 d1 d2 hf
 obtain ⟨d0, d1, d2⟩ := hv2.c3
 refine bodyPost_ret (v := .tuple #[.agg #[.slice A n n, .pointer (ruP 2 g), .pointer (prP 2 g)], .bool true]) (by simp [results, Tryz.results155, go_sem, d0, d1, d2]) rfl ?_
 exact ⟨A, n, rfl, (hR.grown hg2 (by omega)).lower (by omega), hB2⟩
theorem partsOf_3 (g : Nat) (w : World) (hc : w.cell? ⟨g, 0, none⟩ = some (.int .i64 3)) : Calls Tryz.prog 155 #[.pointer (some ⟨g, 0, none⟩)] w (PartsAre 3 g w) := by
 have hg := World.block_lt_of_cell? w _ hc
 simp only at hg
 have hcA : (mapAll w).cell? ⟨g, 0, none⟩ = some (.int .i64 3) := cell_below hc hg (mapAll_below w)
 have hm := map_made w
 have h1 := map_in1 w
 have h2 := map_in2 w
 have h3 := map_in3 w
 have h4 := map_in4 w
 have h5 := map_in5 w
 have h6 := map_in6 w
 have h7 := map_in7 w
 have h8 := map_in8 w
 have h9 := map_in9 w
 have hl := map_look3 w
 go_enter Tryz.func155, Tryz.ntmps155
 go_wp2_with fail
 refine (m_rule g _ 3 (by omega)).mono ?_
 have hb0 := mapAll_below w
 have hz0 := mapAll_size w
 have hv0 := mapAll_cells w
 generalize mapAll w = wm at *
 rintro e w1 ⟨A, n, rfl, hR, hb1⟩
 have hv1 := hv0.below hb1 (by omega)
 have hz1 := hb1.size
 obtain ⟨d0, d1, d2⟩ := hv1.c3
 have hf := hv1.free
 clear hm h1 h2 h3 h4 h5 h6 h7 h8 h9 hl hcA
 go_wp2_with fail
 have hv2 := hv1.putC [.slice A n n, .pointer (ruP 3 g), .pointer (prP 3 g)] 0
 have hg2 := putC_grown w.heap.size [.slice A n n, .pointer (ruP 3 g), .pointer (prP 3 g)] w1 0
 have hB2 := putC_below (Nat.le_refl w.heap.size) [.slice A n n, .pointer (ruP 3 g), .pointer (prP 3 g)] 0 (hb0.trans (hb1.mono (by omega)))
 change bodyPost _ _ _ _ _ (putC w1 w.heap.size 0 [.slice A n n, .pointer (ruP 3 g), .pointer (prP 3 g)])
 generalize putC w1 w.heap.size 0 [.slice A n n, .pointer (ruP 3 g), .pointer (prP 3 g)] = w2 at *
 clear d0 d1 d2 hf
 obtain ⟨d0, d1, d2⟩ := hv2.c3
 refine bodyPost_ret (v := .tuple #[.agg #[.slice A n n, .pointer (ruP 3 g), .pointer (prP 3 g)], .bool true]) (by simp [results, Tryz.results155, go_sem, d0, d1, d2]) rfl ?_
 exact ⟨A, n, rfl, (hR.grown hg2 (by omega)).lower (by omega), hB2⟩
theorem partsOf_4 (g : Nat) (w : World) (hc : w.cell? ⟨g, 0, none⟩ = some (.int .i64 4)) : Calls Tryz.prog 155 #[.pointer (some ⟨g, 0, none⟩)] w (PartsAre 4 g w) := by
 have hg := World.block_lt_of_cell? w _ hc
 simp only at hg
 have hcA : (mapAll w).cell? ⟨g, 0, none⟩ = some (.int .i64 4) := cell_below hc hg (mapAll_below w)
 have hm := map_made w
 have h1 := map_in1 w
 have h2 := map_in2 w
 have h3 := map_in3 w
 have h4 := map_in4 w
 have h5 := map_in5 w
 have h6 := map_in6 w
 have h7 := map_in7 w
 have h8 := map_in8 w
 have h9 := map_in9 w
 have hl := map_look4 w
 go_enter Tryz.func155, Tryz.ntmps155
 go_wp2_with fail
 refine (m_tag g _).mono ?_
 have hb0 := mapAll_below w
 have hz0 := mapAll_size w
 have hv0 := mapAll_cells w
 generalize mapAll w = wm at *
 rintro e w1 ⟨A, n, rfl, hR, hb1⟩
 have hv1 := hv0.below hb1 (by omega)
 have hz1 := hb1.size
 obtain ⟨d0, d1, d2⟩ := hv1.c3
 have hf := hv1.free
 clear hm h1 h2 h3 h4 h5 h6 h7 h8 h9 hl hcA
 go_wp2_with fail
 have hv2 := hv1.putC [.slice A n n, .pointer (ruP 4 g), .pointer (prP 4 g)] 0
 have hg2 := putC_grown w.heap.size [.slice A n n, .pointer (ruP 4 g), .pointer (prP 4 g)] w1 0
 have hB2 := putC_below (Nat.le_refl w.heap.size) [.slice A n n, .pointer (ruP 4 g), .pointer (prP 4 g)] 0 (hb0.trans (hb1.mono (by omega)))
 change bodyPost _ _ _ _ _ (putC w1 w.heap.size 0 [.slice A n n, .pointer (ruP 4 g), .pointer (prP 4 g)])
 generalize putC w1 w.heap.size 0 [.slice A n n, .pointer (ruP 4 g), .pointer (prP 4 g)] = w2 at *
 clear d0 d1 d2 hf
 obtain ⟨d0, d1, d2⟩ := hv2.c3
 refine bodyPost_ret (v := .tuple #[.agg #[.slice A n n, .pointer (ruP 4 g), .pointer (prP 4 g)], .bool true]) (by simp [results, Tryz.results155, go_sem, d0, d1, d2]) rfl ?_
 exact ⟨A, n, rfl, (hR.grown hg2 (by omega)).lower (by omega), hB2⟩
theorem partsOf_5 (g : Nat) (w : World) (hc : w.cell? ⟨g, 0, none⟩ = some (.int .i64 5)) : Calls Tryz.prog 155 #[.pointer (some ⟨g, 0, none⟩)] w (PartsAre 5 g w) := by
 have hg := World.block_lt_of_cell? w _ hc
 simp only at hg
 have hcA : (mapAll w).cell? ⟨g, 0, none⟩ = some (.int .i64 5) := cell_below hc hg (mapAll_below w)
 have hm := map_made w
 have h1 := map_in1 w
 have h2 := map_in2 w
 have h3 := map_in3 w
 have h4 := map_in4 w
 have h5 := map_in5 w
 have h6 := map_in6 w
 have h7 := map_in7 w
 have h8 := map_in8 w
 have h9 := map_in9 w
 have hl := map_look5 w
 go_enter Tryz.func155, Tryz.ntmps155
 go_wp2_with fail
 refine (m_probe g _).mono ?_
 have hb0 := mapAll_below w
 have hz0 := mapAll_size w
 have hv0 := mapAll_cells w
 generalize mapAll w = wm at *
 rintro e w1 ⟨A, n, rfl, hR, hb1⟩
 have hv1 := hv0.below hb1 (by omega)
 have hz1 := hb1.size
 obtain ⟨d0, d1, d2⟩ := hv1.c3
 have hf := hv1.free
 clear hm h1 h2 h3 h4 h5 h6 h7 h8 h9 hl hcA
 go_wp2_with fail
 have hv2 := hv1.putC [.slice A n n, .pointer (ruP 5 g), .pointer (prP 5 g)] 0
 have hg2 := putC_grown w.heap.size [.slice A n n, .pointer (ruP 5 g), .pointer (prP 5 g)] w1 0
 have hB2 := putC_below (Nat.le_refl w.heap.size) [.slice A n n, .pointer (ruP 5 g), .pointer (prP 5 g)] 0 (hb0.trans (hb1.mono (by omega)))
 change bodyPost _ _ _ _ _ (putC w1 w.heap.size 0 [.slice A n n, .pointer (ruP 5 g), .pointer (prP 5 g)])
 generalize putC w1 w.heap.size 0 [.slice A n n, .pointer (ruP 5 g), .pointer (prP 5 g)] = w2 at *
 clear d0 d1 d2 hf
 obtain ⟨d0, d1, d2⟩ := hv2.c3
 refine bodyPost_ret (v := .tuple #[.agg #[.slice A n n, .pointer (ruP 5 g), .pointer (prP 5 g)], .bool true]) (by simp [results, Tryz.results155, go_sem, d0, d1, d2]) rfl ?_
 exact ⟨A, n, rfl, (hR.grown hg2 (by omega)).lower (by omega), hB2⟩
theorem partsOf_6 (g : Nat) (w : World) (hc : w.cell? ⟨g, 0, none⟩ = some (.int .i64 6)) : Calls Tryz.prog 155 #[.pointer (some ⟨g, 0, none⟩)] w (PartsAre 6 g w) := by
 have hg := World.block_lt_of_cell? w _ hc
 simp only at hg
 have hcA : (mapAll w).cell? ⟨g, 0, none⟩ = some (.int .i64 6) := cell_below hc hg (mapAll_below w)
 have hm := map_made w
 have h1 := map_in1 w
 have h2 := map_in2 w
 have h3 := map_in3 w
 have h4 := map_in4 w
 have h5 := map_in5 w
 have h6 := map_in6 w
 have h7 := map_in7 w
 have h8 := map_in8 w
 have h9 := map_in9 w
 have hl := map_look6 w
 go_enter Tryz.func155, Tryz.ntmps155
 go_wp2_with fail
 refine (m_barrier g _).mono ?_
 have hb0 := mapAll_below w
 have hz0 := mapAll_size w
 have hv0 := mapAll_cells w
 generalize mapAll w = wm at *
 rintro e w1 ⟨A, n, rfl, hR, hb1⟩
 have hv1 := hv0.below hb1 (by omega)
 have hz1 := hb1.size
 obtain ⟨d0, d1, d2⟩ := hv1.c3
 have hf := hv1.free
 clear hm h1 h2 h3 h4 h5 h6 h7 h8 h9 hl hcA
 go_wp2_with fail
 have hv2 := hv1.putC [.slice A n n, .pointer (ruP 6 g), .pointer (prP 6 g)] 0
 have hg2 := putC_grown w.heap.size [.slice A n n, .pointer (ruP 6 g), .pointer (prP 6 g)] w1 0
 have hB2 := putC_below (Nat.le_refl w.heap.size) [.slice A n n, .pointer (ruP 6 g), .pointer (prP 6 g)] 0 (hb0.trans (hb1.mono (by omega)))
 change bodyPost _ _ _ _ _ (putC w1 w.heap.size 0 [.slice A n n, .pointer (ruP 6 g), .pointer (prP 6 g)])
 generalize putC w1 w.heap.size 0 [.slice A n n, .pointer (ruP 6 g), .pointer (prP 6 g)] = w2 at *
 clear d0 d1 d2 hf
 obtain ⟨d0, d1, d2⟩ := hv2.c3
 refine bodyPost_ret (v := .tuple #[.agg #[.slice A n n, .pointer (ruP 6 g), .pointer (prP 6 g)], .bool true]) (by simp [results, Tryz.results155, go_sem, d0, d1, d2]) rfl ?_
 exact ⟨A, n, rfl, (hR.grown hg2 (by omega)).lower (by omega), hB2⟩
theorem partsOf_7 (g : Nat) (w : World) (hc : w.cell? ⟨g, 0, none⟩ = some (.int .i64 7)) : Calls Tryz.prog 155 #[.pointer (some ⟨g, 0, none⟩)] w (PartsAre 7 g w) := by
 have hg := World.block_lt_of_cell? w _ hc
 simp only at hg
 have hcA : (mapAll w).cell? ⟨g, 0, none⟩ = some (.int .i64 7) := cell_below hc hg (mapAll_below w)
 have hm := map_made w
 have h1 := map_in1 w
 have h2 := map_in2 w
 have h3 := map_in3 w
 have h4 := map_in4 w
 have h5 := map_in5 w
 have h6 := map_in6 w
 have h7 := map_in7 w
 have h8 := map_in8 w
 have h9 := map_in9 w
 have hl := map_look7 w
 go_enter Tryz.func155, Tryz.ntmps155
 go_wp2_with fail
 refine (m_done g _).mono ?_
 have hb0 := mapAll_below w
 have hz0 := mapAll_size w
 have hv0 := mapAll_cells w
 generalize mapAll w = wm at *
 rintro e w1 ⟨A, n, rfl, hR, hb1⟩
 have hv1 := hv0.below hb1 (by omega)
 have hz1 := hb1.size
 obtain ⟨d0, d1, d2⟩ := hv1.c3
 have hf := hv1.free
 clear hm h1 h2 h3 h4 h5 h6 h7 h8 h9 hl hcA
 go_wp2_with fail
 have hv2 := hv1.putC [.slice A n n, .pointer (ruP 7 g), .pointer (prP 7 g)] 0
 have hg2 := putC_grown w.heap.size [.slice A n n, .pointer (ruP 7 g), .pointer (prP 7 g)] w1 0
 have hB2 := putC_below (Nat.le_refl w.heap.size) [.slice A n n, .pointer (ruP 7 g), .pointer (prP 7 g)] 0 (hb0.trans (hb1.mono (by omega)))
 change bodyPost _ _ _ _ _ (putC w1 w.heap.size 0 [.slice A n n, .pointer (ruP 7 g), .pointer (prP 7 g)])
 generalize putC w1 w.heap.size 0 [.slice A n n, .pointer (ruP 7 g), .pointer (prP 7 g)] = w2 at *
 clear d0 d1 d2 hf
 obtain ⟨d0, d1, d2⟩ := hv2.c3
 refine bodyPost_ret (v := .tuple #[.agg #[.slice A n n, .pointer (ruP 7 g), .pointer (prP 7 g)], .bool true]) (by simp [results, Tryz.results155, go_sem, d0, d1, d2]) rfl ?_
 exact ⟨A, n, rfl, (hR.grown hg2 (by omega)).lower (by omega), hB2⟩
theorem partsOf_8 (g : Nat) (w : World) (hc : w.cell? ⟨g, 0, none⟩ = some (.int .i64 8)) : Calls Tryz.prog 155 #[.pointer (some ⟨g, 0, none⟩)] w (PartsAre 8 g w) := by
 have hg := World.block_lt_of_cell? w _ hc
 simp only at hg
 have hcA : (mapAll w).cell? ⟨g, 0, none⟩ = some (.int .i64 8) := cell_below hc hg (mapAll_below w)
 have hm := map_made w
 have h1 := map_in1 w
 have h2 := map_in2 w
 have h3 := map_in3 w
 have h4 := map_in4 w
 have h5 := map_in5 w
 have h6 := map_in6 w
 have h7 := map_in7 w
 have h8 := map_in8 w
 have h9 := map_in9 w
 have hl := map_look8 w
 go_enter Tryz.func155, Tryz.ntmps155
 go_wp2_with fail
 refine (m_link g _).mono ?_
 have hb0 := mapAll_below w
 have hz0 := mapAll_size w
 have hv0 := mapAll_cells w
 generalize mapAll w = wm at *
 rintro e w1 ⟨A, n, rfl, hR, hb1⟩
 have hv1 := hv0.below hb1 (by omega)
 have hz1 := hb1.size
 obtain ⟨d0, d1, d2⟩ := hv1.c3
 have hf := hv1.free
 clear hm h1 h2 h3 h4 h5 h6 h7 h8 h9 hl hcA
 go_wp2_with fail
 have hv2 := hv1.putC [.slice A n n, .pointer (ruP 8 g), .pointer (prP 8 g)] 0
 have hg2 := putC_grown w.heap.size [.slice A n n, .pointer (ruP 8 g), .pointer (prP 8 g)] w1 0
 have hB2 := putC_below (Nat.le_refl w.heap.size) [.slice A n n, .pointer (ruP 8 g), .pointer (prP 8 g)] 0 (hb0.trans (hb1.mono (by omega)))
 change bodyPost _ _ _ _ _ (putC w1 w.heap.size 0 [.slice A n n, .pointer (ruP 8 g), .pointer (prP 8 g)])
 generalize putC w1 w.heap.size 0 [.slice A n n, .pointer (ruP 8 g), .pointer (prP 8 g)] = w2 at *
 clear d0 d1 d2 hf
 obtain ⟨d0, d1, d2⟩ := hv2.c3
 refine bodyPost_ret (v := .tuple #[.agg #[.slice A n n, .pointer (ruP 8 g), .pointer (prP 8 g)], .bool true]) (by simp [results, Tryz.results155, go_sem, d0, d1, d2]) rfl ?_
 exact ⟨A, n, rfl, (hR.grown hg2 (by omega)).lower (by omega), hB2⟩
theorem partsOf_9 (g : Nat) (w : World) (hc : w.cell? ⟨g, 0, none⟩ = some (.int .i64 9)) : Calls Tryz.prog 155 #[.pointer (some ⟨g, 0, none⟩)] w (PartsAre 9 g w) := by
 have hg := World.block_lt_of_cell? w _ hc
 simp only at hg
 have hcA : (mapAll w).cell? ⟨g, 0, none⟩ = some (.int .i64 9) := cell_below hc hg (mapAll_below w)
 have hm := map_made w
 have h1 := map_in1 w
 have h2 := map_in2 w
 have h3 := map_in3 w
 have h4 := map_in4 w
 have h5 := map_in5 w
 have h6 := map_in6 w
 have h7 := map_in7 w
 have h8 := map_in8 w
 have h9 := map_in9 w
 have hl := map_look9 w
 go_enter Tryz.func155, Tryz.ntmps155
 go_wp2_with fail
 refine (m_port g _).mono ?_
 have hb0 := mapAll_below w
 have hz0 := mapAll_size w
 have hv0 := mapAll_cells w
 generalize mapAll w = wm at *
 rintro e w1 ⟨A, n, rfl, hR, hb1⟩
 have hv1 := hv0.below hb1 (by omega)
 have hz1 := hb1.size
 obtain ⟨d0, d1, d2⟩ := hv1.c3
 have hf := hv1.free
 clear hm h1 h2 h3 h4 h5 h6 h7 h8 h9 hl hcA
 go_wp2_with fail
 have hv2 := hv1.putC [.slice A n n, .pointer (ruP 9 g), .pointer (prP 9 g)] 0
 have hg2 := putC_grown w.heap.size [.slice A n n, .pointer (ruP 9 g), .pointer (prP 9 g)] w1 0
 have hB2 := putC_below (Nat.le_refl w.heap.size) [.slice A n n, .pointer (ruP 9 g), .pointer (prP 9 g)] 0 (hb0.trans (hb1.mono (by omega)))
 change bodyPost _ _ _ _ _ (putC w1 w.heap.size 0 [.slice A n n, .pointer (ruP 9 g), .pointer (prP 9 g)])
 generalize putC w1 w.heap.size 0 [.slice A n n, .pointer (ruP 9 g), .pointer (prP 9 g)] = w2 at *
 clear d0 d1 d2 hf
 obtain ⟨d0, d1, d2⟩ := hv2.c3
 refine bodyPost_ret (v := .tuple #[.agg #[.slice A n n, .pointer (ruP 9 g), .pointer (prP 9 g)], .bool true]) (by simp [results, Tryz.results155, go_sem, d0, d1, d2]) rfl ?_
 exact ⟨A, n, rfl, (hR.grown hg2 (by omega)).lower (by omega), hB2⟩
theorem partsOf_0 (g : Nat) (w : World) (k : Int) (hk : k < 1 ∨ 9 < k) (hc : w.cell? ⟨g, 0, none⟩ = some (.int .i64 k)) : Calls Tryz.prog 155 #[.pointer (some ⟨g, 0, none⟩)] w (PartsAre k g w) := by
 have hg := World.block_lt_of_cell? w _ hc
 simp only at hg
 have hcA : (mapAll w).cell? ⟨g, 0, none⟩ = some (.int .i64 k) := cell_below hc hg (mapAll_below w)
 have hm := map_made w
 have h1 := map_in1 w
 have h2 := map_in2 w
 have h3 := map_in3 w
 have h4 := map_in4 w
 have h5 := map_in5 w
 have h6 := map_in6 w
 have h7 := map_in7 w
 have h8 := map_in8 w
 have h9 := map_in9 w
 have hl := map_look0 w k hk
 have HK := Kp.mk (kind_none g hk)
 have HI := Kp.mk (isK_no hk)
 clear hk
 have hb0 := mapAll_below w
 have hv0 := mapAll_cells w
 obtain ⟨d0, d1, d2⟩ := hv0.c3
 have hf := hv0.free
 go_enter Tryz.func155, Tryz.ntmps155
 go_wp2_with fail
 have hv2 := hv0.putC [.slice none 0 0, .pointer none, .pointer none] 0
 have hB2 := putC_below (Nat.le_refl w.heap.size) [.slice none 0 0, .pointer none, .pointer none] 0 hb0
 change bodyPost _ _ _ _ _ (putC (mapAll w) w.heap.size 0 [.slice none 0 0, .pointer none, .pointer none])
 generalize putC (mapAll w) w.heap.size 0 [.slice none 0 0, .pointer none, .pointer none] = w2 at *
 clear d0 d1 d2 hf
 obtain ⟨d0, d1, d2⟩ := hv2.c3
 refine bodyPost_ret (v := .tuple #[.agg #[.slice none 0 0, .pointer none, .pointer none], .bool false]) (by simp [results, Tryz.results155, go_sem, d0, d1, d2]) rfl ?_
 refine ⟨none, 0, by rw [HK.out.1, HK.out.2.1, HI.out], by rw [HK.out.2.2]; exact Rn.nil _ _ _, hB2⟩
theorem partsOf_any (g : Nat) (w : World) (k : Int) (hc : w.cell? ⟨g, 0, none⟩ = some (.int .i64 k)) : Calls Tryz.prog 155 #[.pointer (some ⟨g, 0, none⟩)] w (PartsAre k g w) := by
 by_cases h1 : k = 1
 ·subst h1; exact partsOf_1 g w hc
 by_cases h2 : k = 2
 ·subst h2; exact partsOf_2 g w hc
 by_cases h3 : k = 3
 ·subst h3; exact partsOf_3 g w hc
 by_cases h4 : k = 4
 ·subst h4; exact partsOf_4 g w hc
 by_cases h5 : k = 5
 ·subst h5; exact partsOf_5 g w hc
 by_cases h6 : k = 6
 ·subst h6; exact partsOf_6 g w hc
 by_cases h7 : k = 7
 ·subst h7; exact partsOf_7 g w hc
 by_cases h8 : k = 8
 ·subst h8; exact partsOf_8 g w hc
 by_cases h9 : k = 9
 ·subst h9; exact partsOf_9 g w hc
 exact partsOf_0 g w k (by omega) hc
theorem put_b1 (l : List Int) (v : Int) (h : 0 ≤ v ∧ v < 256) : putP l 1 [v] = (l ++ dg 1 v, 0) := putP_one l 1 (by omega) v h.1 (by omega)
theorem put_b2 (l : List Int) (v : Int) (h : 0 ≤ v ∧ v < 65536) : putP l 2 [v] = (l ++ dg 2 v, 0) := putP_one l 2 (by omega) v h.1 (by omega)
theorem put_two1 (l : List Int) (a b : Int) (ha : 0 ≤ a ∧ a < 256) (hb : 0 ≤ b ∧ b < 256) : putP l 1 [a, b] = (l ++ (dg 1 a ++ dg 1 b), 0) := by
 unfold putP
 rw [if_pos (by omega), if_pos (by simp [fitsP]; omega)]
 simp
theorem put_three2 (l : List Int) (a b c : Int) (ha : 0 ≤ a ∧ a < 65536) (hb : 0 ≤ b ∧ b < 65536) (hc : 0 ≤ c ∧ c < 65536) : putP l 2 [a, b, c] = (l ++ (dg 2 a ++ (dg 2 b ++ dg 2 c)), 0) := by
 unfold putP
 rw [if_pos (by omega), if_pos (by simp [fitsP]; omega)]
 simp
theorem rd_part {T : TypeId} {w : World} {g B : Nat} {cs : List Value} {k : IntKind} (hv : Vb T w g cs) (off : Nat) (l : List Int) (hl : (cs.drop off).take l.length = l.map (Value.int k)) (hB : g < B) (hm : l.length ≤ 1000) : Rd k w B (some ⟨g, off, none⟩) l.length l.length l := by
 refine ⟨rfl, Nat.le_refl _, by unfold maxLen; omega, fun e => by simp at e, fun hn => ⟨g, off, rfl, hB, fun j hj => hv.cell (off + j) ?_⟩⟩
 have : ((cs.drop off).take l.length)[j]? = (l.map (Value.int k))[j]? := by rw [hl]
 rw [List.getElem?_take, if_pos hj, List.getElem?_drop] at this
 rw [this, List.getElem?_map, List.getElem?_eq_getElem hj, List.getD_eq_getElem?_getD, List.getElem?_eq_getElem hj]
 rfl
def rcl (r : RuleV) (S : Value) : List Value := [.int .i64 r.k, .int .i64 r.pr, .int .i64 r.to, .int .i64 r.po, .int .i64 r.x.v, .int .i64 r.x.m, .int .u8 r.x.b0, .int .u8 r.x.b1, .int .u8 r.x.b2, .int .u8 r.x.i0, .int .u8 r.x.i1, .int .u8 r.x.i2, S]
theorem Vb.rul {T : TypeId} {w : World} {g : Nat} {r : RuleV} {S : Value} (h : Vb T w g (rcl r S)) : w.cell? ⟨g, 0, none⟩ = some (.int .i64 r.k) ∧ w.cell? ⟨g, 1, none⟩ = some (.int .i64 r.pr) ∧ w.cell? ⟨g, 2, none⟩ = some (.int .i64 r.to) ∧ w.cell? ⟨g, 3, none⟩ = some (.int .i64 r.po) ∧ w.cell? ⟨g, 4, none⟩ = some (.int .i64 r.x.v) ∧ w.cell? ⟨g, 5, none⟩ = some (.int .i64 r.x.m) ∧ w.cell? ⟨g, 6, none⟩ = some (.int .u8 r.x.b0) ∧ w.cell? ⟨g, 7, none⟩ = some (.int .u8 r.x.b1) ∧ w.cell? ⟨g, 8, none⟩ = some (.int .u8 r.x.b2) ∧ w.cell? ⟨g, 9, none⟩ = some (.int .u8 r.x.i0) ∧ w.cell? ⟨g, 10, none⟩ = some (.int .u8 r.x.i1) ∧ w.cell? ⟨g, 11, none⟩ = some (.int .u8 r.x.i2) ∧ w.cell? ⟨g, 12, none⟩ = some (S) := h.c13
theorem outB_len (x : OutV) : (outB x).length = 7 := by simp [outB, dg_len]
theorem outsB_len (os : List OutV) : (os.flatMap outB).length = 7 * os.length := by
 induction os with
 | nil => rfl
 | cons x os ih => rw [List.flatMap_cons, List.length_append, outB_len, ih, List.length_cons]; omega
theorem flat_snoc (os : List OutV) (k : Nat) (x : OutV) (h : os[k]? = some x) : (os.take (k + 1)).flatMap outB = (os.take k).flatMap outB ++ outB x := by
 rw [List.take_add_one, h, List.flatMap_append]; simp
theorem plus_any (a b c n : Int) (w : World) (hn : -1 ≤ n ∧ n ≤ 1) (ha : -2 ≤ a ∧ a ≤ 70000) (hb : -2 ≤ b ∧ b ≤ 70000) (hc : -2 ≤ c ∧ c ≤ 70000) : Calls Tryz.prog 231 #[.agg #[.int .i64 a, .int .i64 b, .int .i64 c], .int .i64 n] w fun e w' => e = .returned (.agg #[.int .i64 (a + n), .int .i64 (b + n), .int .i64 (c + n)]) ∧ Below w.heap.size w w' := by
 obtain ⟨n1, n2⟩ := hn
 obtain ⟨a1, a2⟩ := ha
 obtain ⟨b1, b2⟩ := hb
 obtain ⟨c1, c2⟩ := hc
 go_enter Tryz.func231, Tryz.ntmps231
 go_wp2_with fail
 refine wp_loop_rounds (3 + 1) ?_
 rw [rounds_succ]
 go_wp2_with fail
 rw [rounds_succ]
 go_wp2_with fail
 rw [rounds_succ]
 go_wp2_with fail
 rw [rounds_succ]
 go_wp2_with fail
 refine bodyPost_ret (v := .agg #[.int .i64 (a + n), .int .i64 (b + n), .int .i64 (c + n)]) (by simp [results, Tryz.results231, go_sem]) rfl ?_
 exact ⟨rfl, below_two w _ _⟩
theorem writeCtl_any {w : World} {B1 B n1 c1 n c : Nat} {A1 A : Option Addr} {l : List Int} (r : RuleV) (hb : Rd .u8 w B1 A1 n1 c1 l) (hB1 : B1 ≤ w.heap.size) (h : Ro w B A n c r.os) (hB : B ≤ w.heap.size) (ok : okCtl r) (hl : l.length ≤ 10) : Calls Tryz.prog 200 #[.slice A1 n1 c1, .agg #[.int .i64 r.k, .int .i64 r.pr, .int .i64 r.to, .int .i64 r.po, .int .i64 r.x.v, .int .i64 r.x.m, .int .u8 r.x.b0, .int .u8 r.x.b1, .int .u8 r.x.b2, .int .u8 r.x.i0, .int .u8 r.x.i1, .int .u8 r.x.i2, .slice A n c]] w (NewOf (l ++ ruleB r) w) := by
 obtain ⟨o1, ⟨o2, o3⟩, ⟨o4, o5⟩, o6, _, _⟩ := ok
 have hq1 := Kp.mk (put_b1 l r.k (by omega))
 have hq2 := Kp.mk (fun l => put_b2 l r.pr (by omega))
 have hq3 := Kp.mk (fun l => put_two1 l r.to r.po (by omega) (by omega))
 have hp := Kp.mk (show ((l ++ dg 1 r.k) ++ dg 2 r.pr) ++ (dg 1 r.to ++ dg 1 r.po) = l ++ ruleB r by unfold ruleB; rw [if_neg (by omega)]; simp only [List.append_assoc, List.append_nil])
 have k1 : (r.k != 1) = true := by rw [bne, beq_eq_false_iff_ne.2 (by omega)]; rfl
 clear o1 o2 o3 o4 o5 o6
 have hln := hb.len
 have hba := below_alloc w (.cells #[.int .i64 r.k, .int .i64 r.pr, .int .i64 r.to, .int .i64 r.po, .int .i64 r.x.v, .int .i64 r.x.m, .int .u8 r.x.b0, .int .u8 r.x.b1, .int .u8 r.x.b2, .int .u8 r.x.i0, .int .u8 r.x.i1, .int .u8 r.x.i2, .slice A n c] 47)
 have hza : w.heap.size < (w.alloc (.cells #[.int .i64 r.k, .int .i64 r.pr, .int .i64 r.to, .int .i64 r.po, .int .i64 r.x.v, .int .i64 r.x.m, .int .u8 r.x.b0, .int .u8 r.x.b1, .int .u8 r.x.b2, .int .u8 r.x.i0, .int .u8 r.x.i1, .int .u8 r.x.i2, .slice A n c] 47)).heap.size := by simp
 have hxa : Vb 47 (w.alloc (.cells #[.int .i64 r.k, .int .i64 r.pr, .int .i64 r.to, .int .i64 r.po, .int .i64 r.x.v, .int .i64 r.x.m, .int .u8 r.x.b0, .int .u8 r.x.b1, .int .u8 r.x.b2, .int .u8 r.x.i0, .int .u8 r.x.i1, .int .u8 r.x.i2, .slice A n c] 47)) w.heap.size (rcl r (.slice A n c)) := Vb.new 47 w (rcl r (.slice A n c))
 have hra := hb.below' hba hB1
 have hn1 : n1 ≤ 20 := by omega
 clear hln
 have HA := Kp.mk h
 go_enter Tryz.func200, Tryz.ntmps200
 go_upto_region 1 with fail
 generalize (w.alloc (.cells #[.int .i64 r.k, .int .i64 r.pr, .int .i64 r.to, .int .i64 r.po, .int .i64 r.x.v, .int .i64 r.x.m, .int .u8 r.x.b0, .int .u8 r.x.b1, .int .u8 r.x.b2, .int .u8 r.x.i0, .int .u8 r.x.i1, .int .u8 r.x.i2, .slice A n c] 47)) = wa at *
 obtain ⟨d0, d1, d2, d3, d4, d5, d6, d7, d8, d9, d10, d11, d12⟩ := hxa.rul
 go_wp2_with fail
 refine (put_lit 1 [r.k] hra (by omega) (by simp) (by omega)).mono ?_
 rw [hq1.out]
 rintro e w1 ⟨A2, n2, c2, rfl, ho1, hb1⟩
 have hx1 := hxa.below hb1 (by omega)
 have hz1 := hb1.size
 have hT1 := hba.trans (hb1.mono (by omega))
 have hl1 : n2 ≤ 30 := by have := ho1.len; simp [dg_len] at this; omega
 clear d0 d1 d2 d3 d4 d5 d6 d7 d8 d9 d10 d11 d12 hxa hba hb1 hra
 obtain ⟨d0, d1, d2, d3, d4, d5, d6, d7, d8, d9, d10, d11, d12⟩ := hx1.rul
 go_wp2_with fail
 refine (put_lit 2 [r.pr] ho1.rd (Nat.le_refl _) (by simp) (by omega)).mono ?_
 rw [hq2.out]
 rintro e w2 ⟨A3, n3, c3, rfl, ho2, hb2⟩
 have hx2 := hx1.below hb2 (by omega)
 have hz2 := hb2.size
 have hT2 := hT1.trans (hb2.mono (by omega))
 have hl2 : n3 ≤ 40 := by have := ho2.len; simp [dg_len] at this; omega
 clear d0 d1 d2 d3 d4 d5 d6 d7 d8 d9 d10 d11 d12 hx1 hb2 hT1 ho1
 obtain ⟨d0, d1, d2, d3, d4, d5, d6, d7, d8, d9, d10, d11, d12⟩ := hx2.rul
 go_wp2_with fail
 refine (put_lit 1 [r.to, r.po] ho2.rd (Nat.le_refl _) (by simp) (by omega)).mono ?_
 rw [hq3.out]
 rintro e w3 ⟨A4, n4, c4, rfl, ho3, hb3⟩
 have hx3 := hx2.below hb3 (by omega)
 have hz3 := hb3.size
 have hT3 := hT2.trans (hb3.mono (by omega))
 have hl3 : n4 ≤ 50 := by have := ho3.len; simp [dg_len] at this; omega
 clear d0 d1 d2 d3 d4 d5 d6 d7 d8 d9 d10 d11 d12 hx2 hb3 hT2 ho2
 obtain ⟨d0, d1, d2, d3, d4, d5, d6, d7, d8, d9, d10, d11, d12⟩ := hx3.rul
 rw [hp.out] at ho3
 go_wp2_with fail
 go_ret
 exact ⟨A4, n4, c4, rfl, ho3.lower (by omega), hT3⟩
theorem writeData_any {w : World} {B1 B n1 c1 n c : Nat} {A1 A : Option Addr} {l : List Int} (r : RuleV) (hb : Rd .u8 w B1 A1 n1 c1 l) (hB1 : B1 ≤ w.heap.size) (h : Ro w B A n c r.os) (hB : B ≤ w.heap.size) (ok : okData r) (h8 : u8M r.x) (hl : l.length ≤ 10) : Calls Tryz.prog 200 #[.slice A1 n1 c1, .agg #[.int .i64 r.k, .int .i64 r.pr, .int .i64 r.to, .int .i64 r.po, .int .i64 r.x.v, .int .i64 r.x.m, .int .u8 r.x.b0, .int .u8 r.x.b1, .int .u8 r.x.b2, .int .u8 r.x.i0, .int .u8 r.x.i1, .int .u8 r.x.i2, .slice A n c]] w (NewOf (l ++ ruleB r) w) := by
 obtain ⟨o1, ⟨o2, o3⟩, o4, o5, ⟨⟨m1, m2⟩, ⟨m3, m4⟩, _⟩, o8, oo⟩ := ok
 have hq1 := Kp.mk (put_b1 l r.k (by omega))
 have hq2 := Kp.mk (fun l => put_b2 l r.pr (by omega))
 have hq3 := Kp.mk (fun l => put_two1 l r.to r.po (by omega) (by omega))
 have hq4 := Kp.mk (fun l => put_two1 l r.x.v (r.x.m + 1) (by omega) (by omega))
 have hnl := h.len
 have hn8 : n ≤ 8 := by omega
 have hq5 := Kp.mk (fun l => put_b1 l (n : Nat) (by omega))
 have hOk := Kp.mk oo
 have HL := Kp.mk hnl
 have H8 := Kp.mk h8
 have hp := Kp.mk (show (((((((l ++ dg 1 r.k) ++ dg 2 r.pr) ++ (dg 1 r.to ++ dg 1 r.po)) ++ (dg 1 r.x.v ++ dg 1 (r.x.m + 1))) ++ [r.x.b0, r.x.b1, r.x.b2]) ++ [r.x.i0, r.x.i1, r.x.i2]) ++ dg 1 (n : Nat)) ++ r.os.flatMap outB = l ++ ruleB r by unfold ruleB dataB maskB; rw [if_pos o1, hnl]; simp only [List.append_assoc])
 have k1 : (r.k != 1) = false := by rw [bne, o1]; rfl
 clear o1 o2 o3 o4 o5 o8 oo hnl h8 m1 m2
 have hln := hb.len
 have hba := below_alloc w (.cells #[.int .i64 r.k, .int .i64 r.pr, .int .i64 r.to, .int .i64 r.po, .int .i64 r.x.v, .int .i64 r.x.m, .int .u8 r.x.b0, .int .u8 r.x.b1, .int .u8 r.x.b2, .int .u8 r.x.i0, .int .u8 r.x.i1, .int .u8 r.x.i2, .slice A n c] 47)
 have hza : w.heap.size < (w.alloc (.cells #[.int .i64 r.k, .int .i64 r.pr, .int .i64 r.to, .int .i64 r.po, .int .i64 r.x.v, .int .i64 r.x.m, .int .u8 r.x.b0, .int .u8 r.x.b1, .int .u8 r.x.b2, .int .u8 r.x.i0, .int .u8 r.x.i1, .int .u8 r.x.i2, .slice A n c] 47)).heap.size := by simp
 have hxa : Vb 47 (w.alloc (.cells #[.int .i64 r.k, .int .i64 r.pr, .int .i64 r.to, .int .i64 r.po, .int .i64 r.x.v, .int .i64 r.x.m, .int .u8 r.x.b0, .int .u8 r.x.b1, .int .u8 r.x.b2, .int .u8 r.x.i0, .int .u8 r.x.i1, .int .u8 r.x.i2, .slice A n c] 47)) w.heap.size (rcl r (.slice A n c)) := Vb.new 47 w (rcl r (.slice A n c))
 have hra := hb.below' hba hB1
 have hn1 : n1 ≤ 20 := by omega
 clear hln
 have HA := Kp.mk h
 go_enter Tryz.func200, Tryz.ntmps200
 go_upto_region 1 with fail
 generalize (w.alloc (.cells #[.int .i64 r.k, .int .i64 r.pr, .int .i64 r.to, .int .i64 r.po, .int .i64 r.x.v, .int .i64 r.x.m, .int .u8 r.x.b0, .int .u8 r.x.b1, .int .u8 r.x.b2, .int .u8 r.x.i0, .int .u8 r.x.i1, .int .u8 r.x.i2, .slice A n c] 47)) = wa at *
 obtain ⟨d0, d1, d2, d3, d4, d5, d6, d7, d8, d9, d10, d11, d12⟩ := hxa.rul
 go_wp2_with fail
 refine (put_lit 1 [r.k] hra (by omega) (by simp) (by omega)).mono ?_
 rw [hq1.out]
 rintro e w1 ⟨A2, n2, c2, rfl, ho1, hb1⟩
 have hx1 := hxa.below hb1 (by omega)
 have hz1 := hb1.size
 have hT1 := hba.trans (hb1.mono (by omega))
 have hl1 : n2 ≤ 30 := by have := ho1.len; simp [dg_len] at this; omega
 clear d0 d1 d2 d3 d4 d5 d6 d7 d8 d9 d10 d11 d12 hxa hba hb1 hra
 obtain ⟨d0, d1, d2, d3, d4, d5, d6, d7, d8, d9, d10, d11, d12⟩ := hx1.rul
 go_wp2_with fail
 refine (put_lit 2 [r.pr] ho1.rd (Nat.le_refl _) (by simp) (by omega)).mono ?_
 rw [hq2.out]
 rintro e w2 ⟨A3, n3, c3, rfl, ho2, hb2⟩
 have hx2 := hx1.below hb2 (by omega)
 have hz2 := hb2.size
 have hT2 := hT1.trans (hb2.mono (by omega))
 have hl2 : n3 ≤ 40 := by have := ho2.len; simp [dg_len] at this; omega
 clear d0 d1 d2 d3 d4 d5 d6 d7 d8 d9 d10 d11 d12 hx1 hb2 hT1 ho1
 obtain ⟨d0, d1, d2, d3, d4, d5, d6, d7, d8, d9, d10, d11, d12⟩ := hx2.rul
 go_wp2_with fail
 refine (put_lit 1 [r.to, r.po] ho2.rd (Nat.le_refl _) (by simp) (by omega)).mono ?_
 rw [hq3.out]
 rintro e w3 ⟨A4, n4, c4, rfl, ho3, hb3⟩
 have hx3 := hx2.below hb3 (by omega)
 have hz3 := hb3.size
 have hT3 := hT2.trans (hb3.mono (by omega))
 have hl3 : n4 ≤ 50 := by have := ho3.len; simp [dg_len] at this; omega
 clear d0 d1 d2 d3 d4 d5 d6 d7 d8 d9 d10 d11 d12 hx2 hb3 hT2 ho2
 obtain ⟨d0, d1, d2, d3, d4, d5, d6, d7, d8, d9, d10, d11, d12⟩ := hx3.rul
 go_wp2_with fail
 refine (put_lit 1 [r.x.v, r.x.m + 1] ho3.rd (Nat.le_refl _) (by simp) (by omega)).mono ?_
 rw [hq4.out]
 rintro e w4 ⟨A5, n5, c5, rfl, ho4, hb4⟩
 have hx4 := hx3.below hb4 (by omega)
 have hz4 := hb4.size
 have hT4 := hT3.trans (hb4.mono (by omega))
 have hl4 : n5 ≤ 60 := by have := ho4.len; simp [dg_len] at this; omega
 clear d0 d1 d2 d3 d4 d5 d6 d7 d8 d9 d10 d11 d12 hx3 hb4 hT3 ho3
 obtain ⟨d0, d1, d2, d3, d4, d5, d6, d7, d8, d9, d10, d11, d12⟩ := hx4.rul
 have hr4 := rd_part (k := .u8) (B := w4.heap.size) hx4 6 [r.x.b0, r.x.b1, r.x.b2] rfl (by omega) (by simp)
 go_upto_region 8 with (at_builtin; refine wpList_append8 rfl (.tmp 51) (.tmp 54) rfl rfl (ho4.lower (b := w3.heap.size) (Nat.le_refl _)) rfl hr4 (by simp; omega) (by omega) ?_; intro A6 c6 w5 ho5 hb5)
 try simp only [List.length_cons, List.length_nil, Nat.zero_add, Nat.reduceAdd] at ho5
 have hx5 := hx4.below hb5 (by omega)
 have hz5 := hb5.size
 have hT5 := hT4.trans (hb5.mono (by omega))
 clear d0 d1 d2 d3 d4 d5 d6 d7 d8 d9 d10 d11 d12 hx4 hb5 hT4 ho4 hr4
 obtain ⟨d0, d1, d2, d3, d4, d5, d6, d7, d8, d9, d10, d11, d12⟩ := hx5.rul
 have hr5 := rd_part (k := .u8) (B := w5.heap.size) hx5 9 [r.x.i0, r.x.i1, r.x.i2] rfl (by omega) (by simp)
 go_upto_region 9 with (at_builtin; refine wpList_append8 rfl (.tmp 56) (.tmp 59) rfl rfl ho5 rfl hr5 (by simp; omega) (by omega) ?_; intro A7 c7 w6 ho6 hb6)
 try simp only [List.length_cons, List.length_nil, Nat.zero_add, Nat.reduceAdd] at ho6
 have hx6 := hx5.below hb6 (by omega)
 have hz6 := hb6.size
 have hT6 := hT5.trans (hb6.mono (by omega))
 clear d0 d1 d2 d3 d4 d5 d6 d7 d8 d9 d10 d11 d12 hx5 hb6 hT5 ho5 hr5
 obtain ⟨d0, d1, d2, d3, d4, d5, d6, d7, d8, d9, d10, d11, d12⟩ := hx6.rul
 go_wp2_with fail
 refine (put_lit 1 [(n : Int)] ho6.rd (Nat.le_refl _) (by simp) (by omega)).mono ?_
 rw [hq5.out]
 rintro e w7 ⟨A8, n8, c8, rfl, ho7, hb7⟩
 have hx7 := hx6.below hb7 (by omega)
 have hz7 := hb7.size
 have hT7 := hT6.trans (hb7.mono (by omega))
 have hl7 : n8 ≤ 80 := by have := ho7.len; simp [dg_len] at this; have := ho6.len; simp [dg_len] at this; omega
 clear d0 d1 d2 d3 d4 d5 d6 d7 d8 d9 d10 d11 d12 hx6 hb7 hT6 ho6
 obtain ⟨d0, d1, d2, d3, d4, d5, d6, d7, d8, d9, d10, d11, d12⟩ := hx7.rul
 replace ho7 := ho7.lower (b := w.heap.size) (by omega)
 generalize ((((((l ++ dg 1 r.k) ++ dg 2 r.pr) ++ (dg 1 r.to ++ dg 1 r.po)) ++ (dg 1 r.x.v ++ dg 1 (r.x.m + 1))) ++ [r.x.b0, r.x.b1, r.x.b2]) ++ [r.x.i0, r.x.i1, r.x.i2]) ++ dg 1 (n : Nat) = l7 at *
 change Own w7 w.heap.size (.slice A8 n8 c8) n8 l7 at ho7
 have hl7' : l7.length ≤ 80 := by have := ho7.len; omega
 clear hq1 hq2 hq3 hq4 hq5
 go_wp2_with fail
 clear d0 d1 d2 d3 d4 d5 d6 d7 d8 d9 d10 d11 d12 hx7
 go_loopw [0, 73] (fun b i wr => ∃ (k : Nat) (Ak : Option Addr) (nk ck : Nat), k ≤ n ∧ i = .int .i64 k ∧ b = .slice Ak nk ck ∧ Own wr w.heap.size (.slice Ak nk ck) nk (l7 ++ (r.os.take k).flatMap outB) ∧ Below w.heap.size w wr) (fun _ i _ => n - (intOf i).toNat)
 case atStart => exact ⟨0, A8, n8, c8, by omega, rfl, rfl, by simpa using ho7, hT7⟩
 case round =>
  obtain ⟨k, Ak, nk, ck, hk, rfl, rfl, ho, hT⟩ := hrel
  have hz := hT.size
  by_cases hlt : k < n
  rotate_left
  ·obtain rfl : k = n := by omega
   have ht : r.os.take k = r.os := List.take_of_length_le (by have := HL.out; omega)
   rw [ht, hp.out] at ho
   go_wp2_with fail
   go_ret
   exact ⟨Ak, nk, ck, rfl, ho, hT⟩
  obtain ⟨b, off, rfl, hbB, hc⟩ := (HA.out.below' hT hB).at_ (by omega)
  obtain ⟨x, hok⟩ : ∃ x, r.os[k]? = some x := ⟨_, List.getElem?_eq_getElem (by have := HL.out; omega)⟩
  obtain ⟨d0, d1, d2, d3⟩ := hc k x hok
  have hxo := hOk.out x (List.mem_of_getElem? hok)
  obtain ⟨⟨x1, x2⟩, ⟨x3, x4⟩, ⟨x5, x6⟩, ⟨x7, x8⟩⟩ := hxo
  have hnk : nk ≤ 200 := by have := ho.len; rw [List.length_append, outsB_len, List.length_take] at this; omega
  have HS := Kp.mk (flat_snoc r.os k x hok)
  have j1 : (k : Int) < n := by omega
  have s1 := Kp.mk (fun l => put_b1 l x.p (by omega))
  have s2 := Kp.mk (fun l => put_three2 l (x.a + 1) (x.b + 1) (x.c + 1) (by omega) (by omega) (by omega))
  clear hc hok hOk HL
  go_wp2_with fail
  refine (plus_any x.a x.b x.c 1 _ (by omega) (by omega) (by omega) (by omega)).mono ?_
  rintro e v1 ⟨rfl, hv1⟩
  have hm := (Vb.new 259 wr [.int .i64 x.p, .int .i64 x.a, .int .i64 x.b, .int .i64 x.c]).below hv1 (by simp)
  have hU1 : Below wr.heap.size wr v1 := (below_alloc wr (.cells #[.int .i64 x.p, .int .i64 x.a, .int .i64 x.b, .int .i64 x.c] 259)).trans (hv1.mono (by simp))
  have hu1 : wr.heap.size < v1.heap.size := by have := hv1.size; simp at this; omega
  clear hv1 d0 d1 d2 d3
  obtain ⟨d0, d1, d2, d3⟩ := hm.c4
  go_upto_region 14 with fail
  have hs := Vb.new 257 v1 [.int .i64 (x.a + 1), .int .i64 (x.b + 1), .int .i64 (x.c + 1)]
  have hm2 := hm.alloc (.cells #[.int .i64 (x.a + 1), .int .i64 (x.b + 1), .int .i64 (x.c + 1)] 257)
  have hU2 := hU1.trans ((below_alloc v1 (.cells #[.int .i64 (x.a + 1), .int .i64 (x.b + 1), .int .i64 (x.c + 1)] 257)).mono (by omega))
  have hu2 : v1.heap.size < (v1.alloc (.cells #[.int .i64 (x.a + 1), .int .i64 (x.b + 1), .int .i64 (x.c + 1)] 257)).heap.size := by simp
  generalize v1.alloc (.cells #[.int .i64 (x.a + 1), .int .i64 (x.b + 1), .int .i64 (x.c + 1)] 257) = v2 at *
  clear d0 d1 d2 d3
  obtain ⟨d0, d1, d2, d3⟩ := hm2.c4
  go_wp2_with fail
  have ho2 := ho.below hU2 (Nat.le_refl _)
  refine (put_lit 1 [x.p] ho2.rd (Nat.le_refl _) (by simp) (by omega)).mono ?_
  rw [s1.out]
  rintro e v3 ⟨Aa, na, ca, rfl, hoa, hv3⟩
  have hs3 := hs.below hv3 (by omega)
  have hu3 := hv3.size
  have hna : na ≤ 210 := by have := hoa.len; have := ho.len; simp only [List.length_append, dg_len] at *; omega
  have hU3 := hU2.trans (hv3.mono (by omega))
  clear d0 d1 d2 d3
  go_wp2_with fail
  have hr3 := rd_part (k := .i64) (B := v3.heap.size) hs3 0 [x.a + 1, x.b + 1, x.c + 1] rfl (by omega) (by simp)
  refine (put_any 2 hoa.rd hr3 (Nat.le_refl _) (Nat.le_refl _) (by simp; omega)).mono ?_
  rw [s2.out]
  rintro e v4 ⟨Ab, nb, cb, rfl, hob, hv4⟩
  have hu4 := hv4.size
  have hU4 := hU3.trans (hv4.mono (by omega))
  go_wp2_with fail
  go_roundw
  case rel => exact ⟨k + 1, Ab, nb, cb, by omega, by go_num, rfl, by rw [HS.out]; unfold outB; simp only [List.append_assoc] at hob ⊢; exact hob.lower (by omega), hT.trans (hU4.mono (by omega))⟩
  case measure => simp [intOf]; omega
theorem writeRule_any {w : World} {B1 B n1 c1 n c : Nat} {A1 A : Option Addr} {l : List Int} (r : RuleV) (hb : Rd .u8 w B1 A1 n1 c1 l) (hB1 : B1 ≤ w.heap.size) (h : Ro w B A n c r.os) (hB : B ≤ w.heap.size) (ok : okR r) (h8 : u8M r.x) (hl : l.length ≤ 10) : Calls Tryz.prog 200 #[.slice A1 n1 c1, .agg #[.int .i64 r.k, .int .i64 r.pr, .int .i64 r.to, .int .i64 r.po, .int .i64 r.x.v, .int .i64 r.x.m, .int .u8 r.x.b0, .int .u8 r.x.b1, .int .u8 r.x.b2, .int .u8 r.x.i0, .int .u8 r.x.i1, .int .u8 r.x.i2, .slice A n c]] w (NewOf (l ++ ruleB r) w) := by
 rcases ok with ok | ok
 ·exact writeData_any r hb hB1 h hB ok h8 hl
 ·exact writeCtl_any r hb hB1 h hB ok hl
end Go.Proofs.YtnoflfbcgbhipaaGreat.Oct
