/- Contracts of layer 6: rules that may be, the program. -/
import Derived.Test.YtnhjpiaenbhilaaOrdA
namespace Go.Proofs.Ytnhjpiaenbhilaa.Oct
open Go.RowKit
set_option linter.unusedVariables false
set_option linter.unusedSimpArgs false

theorem all_snoc' {α : Type} (p : α → Bool) (l : List α) (k : Nat) (x : α) (h : l[k]? = some x) (h1 : (l.take k).all p = true) (h2 : p x = true) : (l.take (k + 1)).all p = true := by
  have hk := (List.getElem?_eq_some_iff.1 h).1
  rw [List.take_add_one, List.all_append, h1, h]
  simp [h2]
theorem all_none' {α : Type} (p : α → Bool) (l : List α) (k : Nat) (x : α) (h : l[k]? = some x) (h2 : p x = false) : l.all p = false := by
  rw [List.all_eq_false]
  exact ⟨x, List.mem_of_getElem? h, by simp [h2]⟩
set_option maxRecDepth 100000 in
theorem areOuts_any {w : World} {B : Nat} {A : Option Addr} {n c : Nat} {os : List OutV} (h : Ro w B A n c os) (hB : B ≤ w.heap.size) : Calls Try.prog 74 #[.slice A n c] w fun e w' => e = .returned (.bool (outsB os)) ∧ Below w.heap.size w w' := by
  have hl := h.len
  by_cases hn : n ≤ 8
  · have hn' : (n : Int) ≤ 8 := by omega
    have ho1 := Kp.mk (show outsB os = os.all okOB by unfold outsB; rw [decide_eq_true (by omega)]; rfl)
    go_enter Try.func74, Try.ntmps74
    go_wp2_with fail
    go_loopw [10] (fun i wr => ∃ k : Nat, k ≤ n ∧ i = .int .i64 k ∧ Kp ((os.take k).all okOB = true) ∧ Below w.heap.size w wr) (fun i _ => n - (intOf i).toNat)
    case atStart => exact ⟨0, by omega, rfl, Kp.mk rfl, Below.refl _ _⟩
    case round =>
      obtain ⟨k, hk, rfl, ha, hb⟩ := hrel
      have hz := hb.size
      by_cases hlt : k < n
      · obtain ⟨b, off, rfl, hbB, hc⟩ := (h.below' hb hB).at_ (by omega)
        obtain ⟨o, hok⟩ : ∃ o, os[k]? = some o := ⟨_, List.getElem?_eq_getElem (by omega)⟩
        obtain ⟨d0, d1, d2, d3⟩ := hc k o hok
        have j1 : (k : Int) < n := by omega
        have Hok := Kp.mk hok
        have Hl := Kp.mk hl
        clear hc hok hl
        by_cases c0 : inB o.p 0 4 = true
        · by_cases c1 : (inB o.a (-1) 255 && (inB o.b (-1) 255 && inB o.c (-1) 255)) = true
          · have hp := Kp.mk (all_snoc' okOB os k o Hok.out ha.out (by unfold okOB; rw [c0, c1]; rfl))
            go_wp2_with (go_at_call 42; refine (inOrd_any _ _ _ _).mono ?_; rintro e w' ⟨rfl, rfl⟩; simp only [c0])
            refine (areFields_any _ _ _ _).mono ?_
            rintro e w1 ⟨rfl, hb1⟩
            simp only [c1]
            go_wp2_with fail
            go_roundw
            case rel => exact ⟨k + 1, by omega, by go_num, hp, hb.trans (((below_alloc wr _).mono hz).trans (hb1.mono (by simp; omega)))⟩
            case measure => simp [intOf]; omega
          · have c1' : (inB o.a (-1) 255 && (inB o.b (-1) 255 && inB o.c (-1) 255)) = false := by simpa using c1
            have hp := Kp.mk (show outsB os = false by rw [ho1.out]; exact all_none' okOB os k o Hok.out (by unfold okOB; rw [c0, c1']; rfl))
            clear c1
            go_wp2_with (go_at_call 42; refine (inOrd_any _ _ _ _).mono ?_; rintro e w' ⟨rfl, rfl⟩; simp only [c0])
            refine (areFields_any _ _ _ _).mono ?_
            rintro e w1 ⟨rfl, hb1⟩
            simp only [c1']
            go_wp2_with fail
            rw [hp.out]
            go_ret
            exact ⟨rfl, hb.trans (((below_alloc wr _).mono hz).trans (hb1.mono (by simp; omega)))⟩
        · have c0' : inB o.p 0 4 = false := by simpa using c0
          have hp := Kp.mk (show outsB os = false by rw [ho1.out]; exact all_none' okOB os k o Hok.out (by unfold okOB; rw [c0']; rfl))
          clear c0
          go_wp2_with (go_at_call 42; refine (inOrd_any _ _ _ _).mono ?_; rintro e w' ⟨rfl, rfl⟩; simp only [c0'])
          rw [hp.out]
          go_ret
          exact ⟨rfl, hb.trans ((below_alloc wr _).mono hz)⟩
      · obtain rfl : k = n := by omega
        have hp := Kp.mk (show outsB os = true by rw [ho1.out]; have := ha.out; rw [List.take_of_length_le (by omega)] at this; exact this)
        clear hl
        go_wp2_with fail
        rw [hp.out]
        go_ret
        exact ⟨rfl, hb⟩
  · have hn' : (8 : Int) < n := by omega
    have hp := Kp.mk (show outsB os = false by unfold outsB; rw [decide_eq_false (by omega)]; rfl)
    clear hn hl
    go_enter Try.func74, Try.ntmps74
    go_wp2_with fail
    rw [hp.out]
    go_ret
    exact ⟨rfl, Below.refl _ _⟩
set_option maxRecDepth 100000 in
set_option maxHeartbeats 1600000 in
theorem isData_any {w : World} {B : Nat} {A : Option Addr} {n c : Nat} (r : RuleV) (h : Ro w B A n c r.os) (hB : B ≤ w.heap.size) : Calls Try.prog 40 #[.agg #[.int .i64 r.k, .int .i64 r.pr, .int .i64 r.to, .int .i64 r.po, .int .i64 r.x.v, .int .i64 r.x.m, .int .u8 r.x.b0, .int .u8 r.x.b1, .int .u8 r.x.b2, .int .u8 r.x.i0, .int .u8 r.x.i1, .int .u8 r.x.i2, .slice A n c]] w fun e w' => e = .returned (.bool (dataBo r)) ∧ Below w.heap.size w w' := by
  by_cases c0 : (r.k == 1) = true
  rotate_left
  · have c0' : (r.k == 1) = false := by simpa using c0
    clear c0
    have hp := Kp.mk (show dataBo r = false by unfold dataBo; rw [c0']; rfl)
    go_enter Try.func40, Try.ntmps40
    go_wp2_with (go_at_call 42; refine (inOrd_any _ _ _ _).mono ?_; rintro e w' ⟨rfl, rfl⟩; simp only [c0'])
    rw [hp.out]
    go_ret
    exact ⟨rfl, below_alloc w _⟩
  by_cases c1 : (inB r.pr 0 65535) = true
  rotate_left
  · have c1' : (inB r.pr 0 65535) = false := by simpa using c1
    clear c1
    have hp := Kp.mk (show dataBo r = false by unfold dataBo; rw [c0, c1']; rfl)
    go_enter Try.func40, Try.ntmps40
    go_wp2_with (go_at_call 42; refine (inOrd_any _ _ _ _).mono ?_; rintro e w' ⟨rfl, rfl⟩; simp only [c0, c1'])
    rw [hp.out]
    go_ret
    exact ⟨rfl, below_alloc w _⟩
  by_cases c2 : (r.to == 0) = true
  rotate_left
  · have c2' : (r.to == 0) = false := by simpa using c2
    clear c2
    have hp := Kp.mk (show dataBo r = false by unfold dataBo; rw [c0, c1, c2']; rfl)
    go_enter Try.func40, Try.ntmps40
    go_wp2_with (go_at_call 42; refine (inOrd_any _ _ _ _).mono ?_; rintro e w' ⟨rfl, rfl⟩; simp only [c0, c1, c2'])
    rw [hp.out]
    go_ret
    exact ⟨rfl, below_alloc w _⟩
  by_cases c3 : (r.po == 0) = true
  rotate_left
  · have c3' : (r.po == 0) = false := by simpa using c3
    clear c3
    have hp := Kp.mk (show dataBo r = false by unfold dataBo; rw [c0, c1, c2, c3']; rfl)
    go_enter Try.func40, Try.ntmps40
    go_wp2_with (go_at_call 42; refine (inOrd_any _ _ _ _).mono ?_; rintro e w' ⟨rfl, rfl⟩; simp only [c0, c1, c2, c3'])
    rw [hp.out]
    go_ret
    exact ⟨rfl, below_alloc w _⟩
  by_cases c4 : (checkM r.x == 0) = true
  rotate_left
  · have c4' : (checkM r.x == 0) = false := by simpa using c4
    clear c4
    have hp := Kp.mk (show dataBo r = false by unfold dataBo; rw [c0, c1, c2, c3, c4']; rfl)
    go_enter Try.func40, Try.ntmps40
    go_wp2_with (go_at_call 42; refine (inOrd_any _ _ _ _).mono ?_; rintro e w' ⟨rfl, rfl⟩; simp only [c0, c1, c2, c3, c4'])
    refine (matchO_any r.x _).mono ?_
    rintro e w1 ⟨rfl, hb1⟩
    have hv := (Vb.new 28 w [.int .i64 r.k, .int .i64 r.pr, .int .i64 r.to, .int .i64 r.po, .int .i64 r.x.v, .int .i64 r.x.m, .int .u8 r.x.b0, .int .u8 r.x.b1, .int .u8 r.x.b2, .int .u8 r.x.i0, .int .u8 r.x.i1, .int .u8 r.x.i2, .slice A n c]).below hb1 (by simp)
    have d12 := hv.cell 12 rfl
    have hb0 : Below w.heap.size w w1 := (below_alloc w (.cells #[.int .i64 r.k, .int .i64 r.pr, .int .i64 r.to, .int .i64 r.po, .int .i64 r.x.v, .int .i64 r.x.m, .int .u8 r.x.b0, .int .u8 r.x.b1, .int .u8 r.x.b2, .int .u8 r.x.i0, .int .u8 r.x.i1, .int .u8 r.x.i2, .slice A n c] 28)).trans (hb1.mono (by simp))
    clear hv hb1
    go_wp2_with fail
    rw [hp.out]
    go_ret
    exact ⟨rfl, hb0⟩
  by_cases c5 : (outsB r.os) = true
  rotate_left
  · have c5' : (outsB r.os) = false := by simpa using c5
    clear c5
    have hp := Kp.mk (show dataBo r = false by unfold dataBo; rw [c0, c1, c2, c3, c4, c5']; rfl)
    go_enter Try.func40, Try.ntmps40
    go_wp2_with (go_at_call 42; refine (inOrd_any _ _ _ _).mono ?_; rintro e w' ⟨rfl, rfl⟩; simp only [c0, c1, c2, c3, c4, c5'])
    refine (matchO_any r.x _).mono ?_
    rintro e w1 ⟨rfl, hb1⟩
    have hv := (Vb.new 28 w [.int .i64 r.k, .int .i64 r.pr, .int .i64 r.to, .int .i64 r.po, .int .i64 r.x.v, .int .i64 r.x.m, .int .u8 r.x.b0, .int .u8 r.x.b1, .int .u8 r.x.b2, .int .u8 r.x.i0, .int .u8 r.x.i1, .int .u8 r.x.i2, .slice A n c]).below hb1 (by simp)
    have d12 := hv.cell 12 rfl
    have hb0 : Below w.heap.size w w1 := (below_alloc w (.cells #[.int .i64 r.k, .int .i64 r.pr, .int .i64 r.to, .int .i64 r.po, .int .i64 r.x.v, .int .i64 r.x.m, .int .u8 r.x.b0, .int .u8 r.x.b1, .int .u8 r.x.b2, .int .u8 r.x.i0, .int .u8 r.x.i1, .int .u8 r.x.i2, .slice A n c] 28)).trans (hb1.mono (by simp))
    clear hv hb1
    go_wp2_with fail
    refine (areOuts_any (h.below' hb0 hB) (by have := hb0.size; omega)).mono ?_
    rintro e w2 ⟨rfl, hb2⟩
    simp only [c0, c1, c2, c3, c4, c5']
    go_wp2_with fail
    rw [hp.out]
    go_ret
    exact ⟨rfl, hb0.trans (hb2.mono hb0.size)⟩
  have hp := Kp.mk (show dataBo r = true by unfold dataBo; rw [c0, c1, c2, c3, c4, c5]; rfl)
  go_enter Try.func40, Try.ntmps40
  go_wp2_with (go_at_call 42; refine (inOrd_any _ _ _ _).mono ?_; rintro e w' ⟨rfl, rfl⟩; simp only [c0, c1, c2, c3, c4, c5])
  refine (matchO_any r.x _).mono ?_
  rintro e w1 ⟨rfl, hb1⟩
  have hv := (Vb.new 28 w [.int .i64 r.k, .int .i64 r.pr, .int .i64 r.to, .int .i64 r.po, .int .i64 r.x.v, .int .i64 r.x.m, .int .u8 r.x.b0, .int .u8 r.x.b1, .int .u8 r.x.b2, .int .u8 r.x.i0, .int .u8 r.x.i1, .int .u8 r.x.i2, .slice A n c]).below hb1 (by simp)
  have d12 := hv.cell 12 rfl
  have hb0 : Below w.heap.size w w1 := (below_alloc w (.cells #[.int .i64 r.k, .int .i64 r.pr, .int .i64 r.to, .int .i64 r.po, .int .i64 r.x.v, .int .i64 r.x.m, .int .u8 r.x.b0, .int .u8 r.x.b1, .int .u8 r.x.b2, .int .u8 r.x.i0, .int .u8 r.x.i1, .int .u8 r.x.i2, .slice A n c] 28)).trans (hb1.mono (by simp))
  clear hv hb1
  go_wp2_with fail
  refine (areOuts_any (h.below' hb0 hB) (by have := hb0.size; omega)).mono ?_
  rintro e w2 ⟨rfl, hb2⟩
  simp only [c0, c1, c2, c3, c4, c5]
  go_wp2_with fail
  rw [hp.out]
  go_ret
  exact ⟨rfl, hb0.trans (hb2.mono hb0.size)⟩
set_option maxRecDepth 100000 in
set_option maxHeartbeats 1600000 in
theorem isCtl_any {w : World} {B : Nat} {A : Option Addr} {n c : Nat} (r : RuleV) (h : Ro w B A n c r.os) (hB : B ≤ w.heap.size) : Calls Try.prog 41 #[.agg #[.int .i64 r.k, .int .i64 r.pr, .int .i64 r.to, .int .i64 r.po, .int .i64 r.x.v, .int .i64 r.x.m, .int .u8 r.x.b0, .int .u8 r.x.b1, .int .u8 r.x.b2, .int .u8 r.x.i0, .int .u8 r.x.i1, .int .u8 r.x.i2, .slice A n c]] w fun e w' => e = .returned (.bool (ctlBo r)) ∧ Below w.heap.size w w' := by
  have eM : ∀ w, (Op.equalIn 10000 25 (.agg #[.int .i64 r.x.v, .int .i64 r.x.m, .int .u8 r.x.b0, .int .u8 r.x.b1, .int .u8 r.x.b2, .int .u8 r.x.i0, .int .u8 r.x.i1, .int .u8 r.x.i2]) (.agg #[.int .i64 0, .int .i64 0, .int .u8 0, .int .u8 0, .int .u8 0, .int .u8 0, .int .u8 0, .int .u8 0])).run Try.prog w = .ok (zeroMB r.x) w := fun w => by rw [← eqMB_no]; exact eq_mask r.x noMask w
  by_cases c0 : (r.k == 2) = true
  rotate_left
  · have c0' : (r.k == 2) = false := by simpa using c0
    clear c0
    have hp := Kp.mk (show ctlBo r = false by unfold ctlBo; rw [h.len, c0']; rfl)
    go_enter Try.func41, Try.ntmps41
    go_wp2_with (go_at_call 42; refine (inOrd_any _ _ _ _).mono ?_; rintro e w' ⟨rfl, rfl⟩; simp only [c0'])
    rw [hp.out]
    go_ret
    exact ⟨rfl, below_alloc w _⟩
  by_cases c1 : (inB r.to 0 6) = true
  rotate_left
  · have c1' : (inB r.to 0 6) = false := by simpa using c1
    clear c1
    have hp := Kp.mk (show ctlBo r = false by unfold ctlBo; rw [h.len, c0, c1']; rfl)
    go_enter Try.func41, Try.ntmps41
    go_wp2_with (go_at_call 42; refine (inOrd_any _ _ _ _).mono ?_; rintro e w' ⟨rfl, rfl⟩; simp only [c0, c1'])
    rw [hp.out]
    go_ret
    exact ⟨rfl, below_alloc w _⟩
  by_cases c2 : (inB r.po 0 4) = true
  rotate_left
  · have c2' : (inB r.po 0 4) = false := by simpa using c2
    clear c2
    have hp := Kp.mk (show ctlBo r = false by unfold ctlBo; rw [h.len, c0, c1, c2']; rfl)
    go_enter Try.func41, Try.ntmps41
    go_wp2_with (go_at_call 42; refine (inOrd_any _ _ _ _).mono ?_; rintro e w' ⟨rfl, rfl⟩; simp only [c0, c1, c2'])
    rw [hp.out]
    go_ret
    exact ⟨rfl, below_alloc w _⟩
  by_cases c3 : (r.pr == 0) = true
  rotate_left
  · have c3' : (r.pr == 0) = false := by simpa using c3
    clear c3
    have hp := Kp.mk (show ctlBo r = false by unfold ctlBo; rw [h.len, c0, c1, c2, c3']; rfl)
    go_enter Try.func41, Try.ntmps41
    go_wp2_with (go_at_call 42; refine (inOrd_any _ _ _ _).mono ?_; rintro e w' ⟨rfl, rfl⟩; simp only [c0, c1, c2, c3'])
    rw [hp.out]
    go_ret
    exact ⟨rfl, below_alloc w _⟩
  by_cases c4 : (zeroMB r.x) = true
  rotate_left
  · have c4' : (zeroMB r.x) = false := by simpa using c4
    clear c4
    have hp := Kp.mk (show ctlBo r = false by unfold ctlBo; rw [h.len, c0, c1, c2, c3, c4']; rfl)
    go_enter Try.func41, Try.ntmps41
    go_wp2_with (go_at_call 42; refine (inOrd_any _ _ _ _).mono ?_; rintro e w' ⟨rfl, rfl⟩; simp only [c0, c1, c2, c3, c4'])
    rw [hp.out]
    go_ret
    exact ⟨rfl, below_alloc w _⟩
  by_cases c5 : ((n : Int) == 0) = true
  rotate_left
  · have c5' : ((n : Int) == 0) = false := by simpa using c5
    clear c5
    have hp := Kp.mk (show ctlBo r = false by unfold ctlBo; rw [h.len, c0, c1, c2, c3, c4, c5']; rfl)
    go_enter Try.func41, Try.ntmps41
    go_wp2_with (go_at_call 42; refine (inOrd_any _ _ _ _).mono ?_; rintro e w' ⟨rfl, rfl⟩; simp only [c0, c1, c2, c3, c4, c5'])
    rw [hp.out]
    go_ret
    exact ⟨rfl, below_alloc w _⟩
  have hp := Kp.mk (show ctlBo r = true by unfold ctlBo; rw [h.len, c0, c1, c2, c3, c4, c5]; rfl)
  go_enter Try.func41, Try.ntmps41
  go_wp2_with (go_at_call 42; refine (inOrd_any _ _ _ _).mono ?_; rintro e w' ⟨rfl, rfl⟩; simp only [c0, c1, c2, c3, c4, c5])
  rw [hp.out]
  go_ret
  exact ⟨rfl, below_alloc w _⟩
set_option maxRecDepth 100000 in
set_option maxHeartbeats 1600000 in
theorem isNone_any {w : World} {B : Nat} {A : Option Addr} {n c : Nat} (r : RuleV) (h : Ro w B A n c r.os) (hB : B ≤ w.heap.size) : Calls Try.prog 72 #[.agg #[.int .i64 r.k, .int .i64 r.pr, .int .i64 r.to, .int .i64 r.po, .int .i64 r.x.v, .int .i64 r.x.m, .int .u8 r.x.b0, .int .u8 r.x.b1, .int .u8 r.x.b2, .int .u8 r.x.i0, .int .u8 r.x.i1, .int .u8 r.x.i2, .slice A n c]] w fun e w' => e = .returned (.bool (noneBo r)) ∧ Below w.heap.size w w' := by
  have eM : ∀ w, (Op.equalIn 10000 25 (.agg #[.int .i64 r.x.v, .int .i64 r.x.m, .int .u8 r.x.b0, .int .u8 r.x.b1, .int .u8 r.x.b2, .int .u8 r.x.i0, .int .u8 r.x.i1, .int .u8 r.x.i2]) (.agg #[.int .i64 0, .int .i64 0, .int .u8 0, .int .u8 0, .int .u8 0, .int .u8 0, .int .u8 0, .int .u8 0])).run Try.prog w = .ok (zeroMB r.x) w := fun w => by rw [← eqMB_no]; exact eq_mask r.x noMask w
  by_cases c0 : (r.k == 0) = true
  rotate_left
  · have c0' : (r.k == 0) = false := by simpa using c0
    clear c0
    have hp := Kp.mk (show noneBo r = false by unfold noneBo; rw [h.len, c0']; rfl)
    go_enter Try.func72, Try.ntmps72
    go_wp2_with fail
    rw [hp.out]
    go_ret
    exact ⟨rfl, below_alloc w _⟩
  by_cases c1 : (r.pr == 0) = true
  rotate_left
  · have c1' : (r.pr == 0) = false := by simpa using c1
    clear c1
    have hp := Kp.mk (show noneBo r = false by unfold noneBo; rw [h.len, c0, c1']; rfl)
    go_enter Try.func72, Try.ntmps72
    go_wp2_with fail
    rw [hp.out]
    go_ret
    exact ⟨rfl, below_alloc w _⟩
  by_cases c2 : (r.to == 0) = true
  rotate_left
  · have c2' : (r.to == 0) = false := by simpa using c2
    clear c2
    have hp := Kp.mk (show noneBo r = false by unfold noneBo; rw [h.len, c0, c1, c2']; rfl)
    go_enter Try.func72, Try.ntmps72
    go_wp2_with fail
    rw [hp.out]
    go_ret
    exact ⟨rfl, below_alloc w _⟩
  by_cases c3 : (r.po == 0) = true
  rotate_left
  · have c3' : (r.po == 0) = false := by simpa using c3
    clear c3
    have hp := Kp.mk (show noneBo r = false by unfold noneBo; rw [h.len, c0, c1, c2, c3']; rfl)
    go_enter Try.func72, Try.ntmps72
    go_wp2_with fail
    rw [hp.out]
    go_ret
    exact ⟨rfl, below_alloc w _⟩
  by_cases c4 : (zeroMB r.x) = true
  rotate_left
  · have c4' : (zeroMB r.x) = false := by simpa using c4
    clear c4
    have hp := Kp.mk (show noneBo r = false by unfold noneBo; rw [h.len, c0, c1, c2, c3, c4']; rfl)
    go_enter Try.func72, Try.ntmps72
    go_wp2_with fail
    rw [hp.out]
    go_ret
    exact ⟨rfl, below_alloc w _⟩
  by_cases c5 : ((n : Int) == 0) = true
  rotate_left
  · have c5' : ((n : Int) == 0) = false := by simpa using c5
    clear c5
    have hp := Kp.mk (show noneBo r = false by unfold noneBo; rw [h.len, c0, c1, c2, c3, c4, c5']; rfl)
    go_enter Try.func72, Try.ntmps72
    go_wp2_with fail
    rw [hp.out]
    go_ret
    exact ⟨rfl, below_alloc w _⟩
  have hp := Kp.mk (show noneBo r = true by unfold noneBo; rw [h.len, c0, c1, c2, c3, c4, c5]; rfl)
  go_enter Try.func72, Try.ntmps72
  go_wp2_with fail
  rw [hp.out]
  go_ret
  exact ⟨rfl, below_alloc w _⟩
set_option maxRecDepth 100000 in
set_option maxHeartbeats 1600000 in
theorem ruleO_any {w : World} {B : Nat} {A : Option Addr} {n c : Nat} (r : RuleV) (h : Ro w B A n c r.os) (hB : B ≤ w.heap.size) : Calls Try.prog 14 #[.agg #[.int .i64 r.k, .int .i64 r.pr, .int .i64 r.to, .int .i64 r.po, .int .i64 r.x.v, .int .i64 r.x.m, .int .u8 r.x.b0, .int .u8 r.x.b1, .int .u8 r.x.b2, .int .u8 r.x.i0, .int .u8 r.x.i1, .int .u8 r.x.i2, .slice A n c]] w fun e w' => e = .returned (.int .i64 (checkR r)) ∧ Below w.heap.size w w' := by
  have hb0 := below_alloc w (.cells #[.int .i64 r.k, .int .i64 r.pr, .int .i64 r.to, .int .i64 r.po, .int .i64 r.x.v, .int .i64 r.x.m, .int .u8 r.x.b0, .int .u8 r.x.b1, .int .u8 r.x.b2, .int .u8 r.x.i0, .int .u8 r.x.i1, .int .u8 r.x.i2, .slice A n c] 28)
  by_cases c0 : dataBo r = true
  · have hp := Kp.mk (show checkR r = 0 by rw [checkR_Bo, c0]; rfl)
    have HC := Kp.mk (fun (w0 : World) (hb : Below w.heap.size w w0) => isData_any r (h.below' hb hB) (by have := hb.size; omega))
    go_enter Try.func14, Try.ntmps14
    go_wp2_with fail
    refine (HC.out _ hb0).mono ?_
    rintro e w1 ⟨rfl, hb1⟩
    simp only [c0]
    go_wp2_with fail
    rw [hp.out]
    go_ret
    exact ⟨rfl, hb0.trans (hb1.mono (by simp))⟩
  · have c0' : dataBo r = false := by simpa using c0
    clear c0
    by_cases c1 : ctlBo r = true
    · have hp := Kp.mk (show checkR r = 0 by rw [checkR_Bo, c0', c1]; rfl)
      have HC := Kp.mk (fun (w0 : World) (hb : Below w.heap.size w w0) => isData_any r (h.below' hb hB) (by have := hb.size; omega))
      have HD := Kp.mk (fun (w0 : World) (hb : Below w.heap.size w w0) => isCtl_any r (h.below' hb hB) (by have := hb.size; omega))
      go_enter Try.func14, Try.ntmps14
      go_wp2_with fail
      refine (HC.out _ hb0).mono ?_
      rintro e w1 ⟨rfl, hb1⟩
      simp only [c0']
      have hv := (Vb.new 28 w [.int .i64 r.k, .int .i64 r.pr, .int .i64 r.to, .int .i64 r.po, .int .i64 r.x.v, .int .i64 r.x.m, .int .u8 r.x.b0, .int .u8 r.x.b1, .int .u8 r.x.b2, .int .u8 r.x.i0, .int .u8 r.x.i1, .int .u8 r.x.i2, .slice A n c]).below hb1 (by simp)
      obtain ⟨d0, d1, d2, d3, d4, d5, d6, d7, d8, d9, d10, d11, d12⟩ := hv.c13
      have hb2 := hb0.trans (hb1.mono (by simp))
      clear hv hb1
      go_wp2_with fail
      refine (HD.out _ hb2).mono ?_
      rintro e w2 ⟨rfl, hb3⟩
      simp only [c1]
      go_wp2_with fail
      rw [hp.out]
      go_ret
      exact ⟨rfl, hb2.trans (hb3.mono hb2.size)⟩
    · have c1' : ctlBo r = false := by simpa using c1
      clear c1
      have hp := Kp.mk (show checkR r = 2 by rw [checkR_Bo, c0', c1']; rfl)
      have HC := Kp.mk (fun (w0 : World) (hb : Below w.heap.size w w0) => isData_any r (h.below' hb hB) (by have := hb.size; omega))
      have HD := Kp.mk (fun (w0 : World) (hb : Below w.heap.size w w0) => isCtl_any r (h.below' hb hB) (by have := hb.size; omega))
      go_enter Try.func14, Try.ntmps14
      go_wp2_with fail
      refine (HC.out _ hb0).mono ?_
      rintro e w1 ⟨rfl, hb1⟩
      simp only [c0']
      have hv := (Vb.new 28 w [.int .i64 r.k, .int .i64 r.pr, .int .i64 r.to, .int .i64 r.po, .int .i64 r.x.v, .int .i64 r.x.m, .int .u8 r.x.b0, .int .u8 r.x.b1, .int .u8 r.x.b2, .int .u8 r.x.i0, .int .u8 r.x.i1, .int .u8 r.x.i2, .slice A n c]).below hb1 (by simp)
      obtain ⟨d0, d1, d2, d3, d4, d5, d6, d7, d8, d9, d10, d11, d12⟩ := hv.c13
      have hb2 := hb0.trans (hb1.mono (by simp))
      clear hv hb1
      go_wp2_with fail
      refine (HD.out _ hb2).mono ?_
      rintro e w2 ⟨rfl, hb3⟩
      simp only [c1']
      go_wp2_with fail
      rw [hp.out]
      go_ret
      exact ⟨rfl, hb2.trans (hb3.mono hb2.size)⟩
end Go.Proofs.Ytnhjpiaenbhilaa.Oct
